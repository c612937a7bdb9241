/- VectAdds: any rows added, scaled, and taken off. Condition: the arguments can be read as data. -/
import Derived.Test.YtodpjmbclmlieaaGreatK6
import Derived.Deep.Cut
import Derived.OpenShut
import Derived.LaidMore
import Derived.Lay
import Derived.Stop.Joined
namespace Go.Proofs.YtodpjmbclmlieaaGreat.vectAdds
open Go.ChangeShapes Go.WideShapes Go.ChangeAt Go.RowKit Go.Proofs.YtodpjmbclmlieaaGreat.num Go.Proofs.YtodpjmbclmlieaaGreat.mem Go.Proofs.YtodpjmbclmlieaaGreat.nat Go.Proofs.YtodpjmbclmlieaaGreat.txt Go.Proofs.YtodpjmbclmlieaaGreat.str Go.Proofs.YtodpjmbclmlieaaGreat.flow Go.Proofs.YtodpjmbclmlieaaGreat.whl Go.Proofs.YtodpjmbclmlieaaGreat.rat
set_option linter.unusedVariables false
theorem own : ownKnob Tryz.prog.godebug = none := by kernel_rfl
theorem laidOut : laidOutB Tryz.prog = true := by kernel_rfl
theorem cells_u : Tryz.prog.cellsOf 63 = 1 := by kernel_rfl
set_option maxHeartbeats 6400000 in
set_option maxRecDepth 100000 in
/-- The walk: the Go text returns true; what was there is as it was. -/
theorem walk (v0 : Value) (v1 : Value) (b2 : Bool) (v2 r2 : Value) (l2 m2 : List Nat) (w : World) (h0 : ArgQs w v0) (h1 : ArgQs w v1) (h2 : IsS w .u64 v2 l2) (u2 : Lt 18446744073709551616 l2) (j2 : IsS w .u64 r2 m2) (x2 : Lt 18446744073709551616 m2) :
    Calls Tryz.prog 3 #[v0, v1, .agg #[.bool b2, v2, r2]] w (RetV (.bool true) w) := by
  obtain ⟨A0, n0, c0, rfl, _⟩ := id h0
  obtain ⟨A1, n1, c1, rfl, _⟩ := id h1
  obtain ⟨A2, c2, rfl, _⟩ := id h2
  obtain ⟨D2, e2, rfl, _⟩ := id j2
  obtain ⟨K, hx2⟩ : ∃ K, K = cleanQ b2 l2 m2 1 := ⟨_, rfl⟩
  have lK : lenQ K 1 := by rw [hx2]; exact cleanQ_len _ _ _ (by omega)
  have HX2 := Lib.hid hx2.symm
  clear hx2
  have HE0 : Hid ((((([] : List Rat).length : Nat) : Int) != 0) = false) := rfl
  go_enter Tryz.func3, Tryz.ntmps3
  go_upto_region 1 with (fail)
  obtain ⟨w0, hwx, bb, BP2, hsz⟩ := vars1 w 28 #[.bool b2, .slice A2 l2.length c2, .slice D2 m2.length e2]
  rw [hwx]
  clear hwx
  have p2s := h2.below bb
  have p2d := j2.below bb
  have hsz0 := bb.size
  have hBl0 := BP2.lt
  go_wp2_with fail
  refine (few11_any A0 n0 c0 8 _ (ArgQs.below h0 bb) (by omega)).mono ?_
  rintro e w1 ⟨V0, U0, p, rfl, hV, hU, hlp, hqp, hb1, hfV, hfU⟩
  have hsb1 := hb1.size
  have hl8p : p.length ≤ 8 := by omega
  have HLp := Lib.hid hlp
  clear hlp
  replace BP2 := BP2.below hb1
  replace p2s := p2s.below hb1
  replace p2d := p2d.below hb1
  replace bb := bb.trans (hb1.mono bb.size)
  have hsz1 := bb.size
  obtain ⟨AV, cV, rfl, _, hmV⟩ := hV.shape
  obtain ⟨AU, cU, rfl, _, hmU⟩ := hU.shape
  have hneV : (Value.slice AV p.length cV).ownBlock ≠ some w.heap.size := fun e => by have := hfV _ e; omega
  have hneU : (Value.slice AU p.length cU).ownBlock ≠ some w.heap.size := fun e => by have := hfU _ e; omega
  have hBl1 := BP2.lt
  go_wp2_with fail
  refine (few11_any A1 n1 c1 8 _ (ArgQs.below h1 bb) (by omega)).mono ?_
  rintro e w2 ⟨V1, U1, q, rfl, hS, hX, hlq, hqq, hb2, hfS, hfX⟩
  have hsb2 := hb2.size
  have hl8q : q.length ≤ 8 := by omega
  have HLq := Lib.hid hlq
  clear hlq
  replace BP2 := BP2.below hb2
  replace p2s := p2s.below hb2
  replace p2d := p2d.below hb2
  replace hV := hV.below hb2
  replace hU := hU.below hb2
  replace bb := bb.trans (hb2.mono bb.size)
  have hsz2 := bb.size
  obtain ⟨AS, cS, rfl, _, hmS⟩ := hS.shape
  obtain ⟨AX, cX, rfl, _, hmX⟩ := hX.shape
  have hneS : (Value.slice AS q.length cS).ownBlock ≠ some w.heap.size := fun e => by have := hfS _ e; omega
  have hneX : (Value.slice AX q.length cX).ownBlock ≠ some w.heap.size := fun e => by have := hfX _ e; omega
  clear hfV hfU hfS hfX
  have HQp : Hid (∀ x ∈ p, lenQ x 1) := hqp
  have HQq : Hid (∀ x ∈ q, lenQ x 1) := hqq
  clear hqp hqq
  go_upto_region 3 with (fail)
  refine flowp 2 [Pd.eq (.agg #[.bool b2, .slice A2 l2.length c2, .slice D2 m2.length e2]), pqn K] (by kernel_rfl) ?ob1 ?done1
  case ob1 =>
    refine And.intro (ob_load rfl (wt_none rfl) (ev_far rfl rfl) (fun w2 hb => run_loadAll Tryz.underlying28 rfl (by kernel_rfl) (BP2.below hb)) (fun _ _ => rfl)) ?_
    refine And.intro (ob_call2 rfl Tryz.func6 (by kernel_rfl) (wt_none rfl) (ev_dep (j := 0) (by kernel_rfl) rfl rfl) (ev_const _) (fun w2 u0 u1 hb h0 h1 => by obtain rfl := h0; obtain rfl := h1; exact (HX2.out ▸ qclean_any _ _ _ _ _ _ 1 _ rfl (p2s.below hb) u2 (p2d.below hb) x2 (by omega) (by omega)).mono fun e w3 h => RetQn.pd (RetQ.n h))) ?_
    trivial
  case done1 =>
    refine fun w3 hb3 v0 h0 v1 h1 b hbf => ?_
    obtain rfl := h0
    have q1 := h1
    simp only [Act.put, List.setIfInBounds_toArray, List.set_cons_zero, List.set_cons_succ] at hbf
    subst hbf
    replace BP2 := BP2.below hb3
    replace p2s := p2s.below hb3
    replace p2d := p2d.below hb3
    replace hV := hV.below hb3
    replace hU := hU.below hb3
    replace hS := hS.below hb3
    replace hX := hX.below hb3
    replace bb := bb.trans (hb3.mono bb.size)
    have hsz3 := bb.size
    obtain ⟨u1, t1, rfl, q1, d1⟩ := q1
    obtain ⟨Ak, ck, rfl, _⟩ := id q1
    obtain ⟨Dk, ek, rfl, _⟩ := id d1
    refine ops_store (i := 2) rfl rfl rfl rfl rfl rfl (cells := [.bool (ngB (K).num), .slice Ak (digs 4294967296 (K).num.natAbs).length ck, .slice Dk (digs 4294967296 (K).den).length ek]) rfl BP2 rfl (by kernel_rfl) (one3 rfl rfl rfl) fun w4 hg4 BN4 => ?_
    replace hV := hV.off BP2 no_ints3 hg4 hneV
    replace hU := hU.off BP2 no_ints3 hg4 hneU
    replace hS := hS.off BP2 no_ints3 hg4 hneS
    replace hX := hX.off BP2 no_ints3 hg4 hneX
    replace q1 := off q1 BP2 no_ints3 hg4
    replace d1 := off d1 BP2 no_ints3 hg4
    replace bb := bb.trans ((Below.refl _ _).grown hg4 bb.size (fun g hg => by injection hg with hg; omega))
    have hsz4 := bb.size
    have Bk : Blk w4 (w.heap.size) _ _ := BN4
    have kks := q1
    have kkd := d1
    have kkz : IsZ w4 (.agg #[.bool (ngB (K).num), .slice Ak (digs 4294967296 (K).num.natAbs).length ck]) ((K).num) := ⟨_, rfl, kks⟩
    have kk : IsQ w4 (.agg #[.bool (ngB (K).num), .slice Ak (digs 4294967296 (K).num.natAbs).length ck, .slice Dk (digs 4294967296 (K).den).length ek]) (K) := ⟨_, _, rfl, kks, kkd⟩
    refine ops_done ?_
    obtain ⟨SC, hSC⟩ : ∃ SC, SC = scaleq p K := ⟨_, rfl⟩
    have HSC := Lib.hid hSC
    have HBK : Hid (p.length ≤ 8 ∧ (∀ x ∈ p, lenQ x 1) ∧ lenQ K 1) := ⟨hl8p, HQp.out, lK⟩
    have HRK : Hid ((scaleq p K).length ≤ p.length ∧ p.length ≤ 1000000 ∧ (∀ x ∈ p, lenQ x 10000) ∧ lenQ K 10000) := ⟨by rw [scaleq_len]; exact Nat.le_refl _, by omega, fun x hx => (HQp.out x hx).mono (by omega), lK.mono (by omega)⟩
    have HCL : Hid (∀ x ∈ SC, lenQ x 30000) := by show ∀ x ∈ _, _; rw [hSC]; exact fun x hx => (lenQ_scaleq HQp.out lK x hx).mono (by omega)
    have HI1 : Hid ((1 : Int) = if SC = SC then 1 else 0) := (if_pos rfl).symm
    clear hSC
    by_cases he : p.length = q.length
    · have HE := Lib.hid he
      have HNE : Hid ((((p.length : Nat) : Int) != ((q.length : Nat) : Int)) = false) := by show _ = _; rw [bne_eq_false_iff_eq]; omega
      obtain ⟨SU, hSU⟩ : ∃ SU, SU = addq p q := ⟨_, rfl⟩
      obtain ⟨LS, hLS⟩ : ∃ LS, LS = lessq p K q := ⟨_, rfl⟩
      have HSU := Lib.hid hSU
      have HLS := Lib.hid hLS
      have HLN : Hid (lessq p (-1) q = SU) := by show _ = _; rw [hSU]; exact lessq_neg p q
      have HSL : Hid (∀ x ∈ SU, lenQ x 30000) := by show ∀ x ∈ _, _; rw [hSU]; exact fun x hx => (lenQ_addq HQp.out HQq.out x hx).mono (by omega)
      have HLL : Hid (∀ x ∈ LS, lenQ x 30000) := by
        show ∀ x ∈ _, _
        rw [hLS]
        intro r hr
        obtain ⟨x, hx, y, hy, rfl⟩ := zip_mem hr
        exact (lenQ_sub (HQp.out x hx) (lenQ_mul lK (HQq.out y hy))).mono (by omega)
      have HI2 : Hid ((1 : Int) = if SU = SU then 1 else 0) := (if_pos rfl).symm
      have HI3 : Hid ((1 : Int) = if LS = LS then 1 else 0) := (if_pos rfl).symm
      have lm1 : lenQ (-1 : Rat) 1 := ⟨digs_len_le (k := 1) (by omega) (by decide +kernel), digs_len_le (k := 1) (by omega) (by decide +kernel)⟩
      have HR1 : Hid ((lessq p (-1) q).length ≤ p.length ∧ p.length ≤ 1000000 ∧ (∀ x ∈ p, lenQ x 2000) ∧ (∀ x ∈ q, lenQ x 2000) ∧ lenQ (-1 : Rat) 2000) := ⟨by rw [lessq_len he]; exact Nat.le_refl _, by omega, fun x hx => (HQp.out x hx).mono (by omega), fun x hx => (HQq.out x hx).mono (by omega), lm1.mono (by omega)⟩
      have HR2 : Hid ((lessq p K q).length ≤ p.length ∧ p.length ≤ 1000000 ∧ (∀ x ∈ p, lenQ x 2000) ∧ (∀ x ∈ q, lenQ x 2000) ∧ lenQ K 2000) := ⟨by rw [lessq_len he]; exact Nat.le_refl _, by omega, fun x hx => (HQp.out x hx).mono (by omega), fun x hx => (HQq.out x hx).mono (by omega), lK.mono (by omega)⟩
      have HBA : Hid (p.length ≤ 8 ∧ (∀ x ∈ p, lenQ x 1) ∧ ∀ x ∈ q, lenQ x 1) := ⟨hl8p, HQp.out, HQq.out⟩
      have HBL : Hid (p.length ≤ 8 ∧ (∀ x ∈ p, lenQ x 1) ∧ lenQ K 1 ∧ ∀ x ∈ q, lenQ x 1) := ⟨hl8p, HQp.out, lK, HQq.out⟩
      clear hSU hLS he
      go_upto_region 4 with (fail)
      refine flowp 9 [Pd.eq (.slice AV p.length cV), Pd.eq (.slice AS q.length cS), pvv (p) (q), psl .u64 4294967296 (SU) 0, psl .u64 4294967296 (SU) 0, pslv .u64 4294967296 (SU), Pd.eq (.int .i64 0), pslv .u64 4294967296 (SU), Pd.eq (.int .i64 0)] (by kernel_rfl) ?ob2 ?done2
      case ob2 =>
        refine And.intro (ob_move rfl (wt_none rfl) (ev_far rfl rfl) (fun _ _ h => h)) ?_
        refine And.intro (ob_move rfl (wt_none rfl) (ev_far rfl rfl) (fun _ _ h => h)) ?_
        refine And.intro (ob_lit2v rfl (wt_none rfl) (ev_dep (j := 0) (by kernel_rfl) rfl rfl) (ev_dep (j := 1) (by kernel_rfl) rfl rfl) Tryz.underlying68 info_slq (fun w2 v hb hv => by obtain rfl := hv; exact hV.below hb) (fun w2 v hb hv => by obtain rfl := hv; exact hS.below hb) (fun _ _ h => h)) ?_
        refine And.intro (ob_call1 rfl Tryz.func7 (by kernel_rfl) (wt_none rfl) (ev_dep (j := 2) (by kernel_rfl) rfl rfl) (fun w2 u0 hb h0 => by exact (HSU.out ▸ fvadd_ok _ p q _ h0 HE.out HBA.out).mono fun e w3 h => RetQLE.pd h)) ?_
        refine And.intro (ob_move rfl (wt_none rfl) (ev_dep (j := 3) (by kernel_rfl) rfl rfl) (fun _ _ h => h)) ?_
        refine And.intro (ob_extract rfl (wt_none rfl) (ev_dep (j := 4) (by kernel_rfl) rfl rfl) (fun w2 u hu => by obtain ⟨V, rfl, h1⟩ := hu; exact ⟨V, rfl, h1⟩)) ?_
        refine And.intro (ob_extract rfl (wt_none rfl) (ev_dep (j := 4) (by kernel_rfl) rfl rfl) (fun w2 u hu => by obtain ⟨V, rfl, h1⟩ := hu; exact ⟨_, rfl, rfl⟩)) ?_
        refine And.intro (ob_assign rfl (wt_none rfl) (ev_dep (j := 5) (by kernel_rfl) rfl rfl) (fun _ _ h => h)) ?_
        refine And.intro (ob_assign rfl (wt_none rfl) (ev_dep (j := 6) (by kernel_rfl) rfl rfl) (fun _ _ h => h)) ?_
        trivial
      case done2 =>
        refine fun w5 hb5 v0 h0 v1 h1 v2 h2 v3 h3 v4 h4 v5 h5 v6 h6 v7 h7 v8 h8 b hbf => ?_
        obtain rfl := h0; obtain rfl := h1; obtain rfl := h6; obtain rfl := h8
        have q2 := h2
        clear h3
        clear h4
        have q5 := h5
        have q7 := h7
        simp only [Act.put, List.setIfInBounds_toArray, List.set_cons_zero, List.set_cons_succ] at hbf
        subst hbf
        replace Bk := Bk.below hb5
        replace kks := kks.below hb5
        replace kkd := kkd.below hb5
        replace kkz := kkz.below hb5
        replace kk := kk.below hb5
        replace hV := hV.below hb5
        replace hU := hU.below hb5
        replace hS := hS.below hb5
        replace hX := hX.below hb5
        replace bb := bb.trans (hb5.mono bb.size)
        have hsz5 := bb.size
        refine ops_done ?_
        have hA := q7
        obtain ⟨AA_, cA_, rfl, _, hmA_⟩ := hA.shape
        go_upto_region 5 with (fail)
        refine flowp 9 [Pd.eq (.slice AV p.length cV), Pd.eq (.agg #[.bool (ngB (K).num), .slice Ak (digs 4294967296 (K).num.natAbs).length ck, .slice Dk (digs 4294967296 (K).den).length ek]), Pd.eq (.slice AS q.length cS), psl .u64 4294967296 (LS) 0, psl .u64 4294967296 (LS) 0, pslv .u64 4294967296 (LS), Pd.eq (.int .i64 0), pslv .u64 4294967296 (LS), Pd.eq (.int .i64 0)] (by kernel_rfl) ?ob3 ?done3
        case ob3 =>
          refine And.intro (ob_move rfl (wt_none rfl) (ev_far rfl rfl) (fun _ _ h => h)) ?_
          refine And.intro (ob_load rfl (wt_none rfl) (ev_far rfl rfl) (fun w2 hb => run_loadAll Tryz.underlying28 rfl (by kernel_rfl) (Bk.below hb)) (fun _ _ => rfl)) ?_
          refine And.intro (ob_move rfl (wt_none rfl) (ev_far rfl rfl) (fun _ _ h => h)) ?_
          refine And.intro (ob_call3 rfl Tryz.func8 (by kernel_rfl) (wt_none rfl) (ev_dep (j := 0) (by kernel_rfl) rfl rfl) (ev_dep (j := 1) (by kernel_rfl) rfl rfl) (ev_dep (j := 2) (by kernel_rfl) rfl rfl) (fun w2 u0 u1 u2 hb h0 h1 h2 => by obtain rfl := h0; obtain rfl := h1; obtain rfl := h2; exact (HLS.out ▸ fless_ok _ _ _ p K q _ (hV.below hb) (kk.below hb) (hS.below hb) HE.out HBL.out).mono fun e w3 h => RetQLE.pd h)) ?_
          refine And.intro (ob_move rfl (wt_none rfl) (ev_dep (j := 3) (by kernel_rfl) rfl rfl) (fun _ _ h => h)) ?_
          refine And.intro (ob_extract rfl (wt_none rfl) (ev_dep (j := 4) (by kernel_rfl) rfl rfl) (fun w2 u hu => by obtain ⟨V, rfl, h1⟩ := hu; exact ⟨V, rfl, h1⟩)) ?_
          refine And.intro (ob_extract rfl (wt_none rfl) (ev_dep (j := 4) (by kernel_rfl) rfl rfl) (fun w2 u hu => by obtain ⟨V, rfl, h1⟩ := hu; exact ⟨_, rfl, rfl⟩)) ?_
          refine And.intro (ob_assign rfl (wt_none rfl) (ev_dep (j := 5) (by kernel_rfl) rfl rfl) (fun _ _ h => h)) ?_
          refine And.intro (ob_assign rfl (wt_none rfl) (ev_dep (j := 6) (by kernel_rfl) rfl rfl) (fun _ _ h => h)) ?_
          trivial
        case done3 =>
          refine fun w6 hb6 v0 h0 v1 h1 v2 h2 v3 h3 v4 h4 v5 h5 v6 h6 v7 h7 v8 h8 b hbf => ?_
          obtain rfl := h0; obtain rfl := h1; obtain rfl := h2; obtain rfl := h6; obtain rfl := h8
          clear h3
          clear h4
          have q5 := h5
          have q7 := h7
          simp only [Act.put, List.setIfInBounds_toArray, List.set_cons_zero, List.set_cons_succ] at hbf
          subst hbf
          replace Bk := Bk.below hb6
          replace kks := kks.below hb6
          replace kkd := kkd.below hb6
          replace kkz := kkz.below hb6
          replace kk := kk.below hb6
          replace hV := hV.below hb6
          replace hU := hU.below hb6
          replace hS := hS.below hb6
          replace hX := hX.below hb6
          replace hA := hA.below hb6
          replace bb := bb.trans (hb6.mono bb.size)
          have hsz6 := bb.size
          refine ops_done ?_
          have hD := q7
          obtain ⟨AD_, cD_, rfl, _, hmD_⟩ := hD.shape
          go_upto_region 6 with (fail)
          refine flowp 6 [psl .u64 4294967296 ([]) 0, psl .u64 4294967296 ([]) 0, pslv .u64 4294967296 ([]), Pd.eq (.int .i64 0), pslv .u64 4294967296 ([]), Pd.eq (.int .i64 0)] (by kernel_rfl) ?ob4 ?done4
          case ob4 =>
            refine And.intro (ob_call1 rfl Tryz.func7 (by kernel_rfl) (wt_none rfl) (ev_const _) (fun w2 u0 hb h0 => by obtain rfl := h0; exact (fvadd_none _).mono fun e w3 h => RetQLE.pd h)) ?_
            refine And.intro (ob_move rfl (wt_none rfl) (ev_dep (j := 0) (by kernel_rfl) rfl rfl) (fun _ _ h => h)) ?_
            refine And.intro (ob_extract rfl (wt_none rfl) (ev_dep (j := 1) (by kernel_rfl) rfl rfl) (fun w2 u hu => by obtain ⟨V, rfl, h1⟩ := hu; exact ⟨V, rfl, h1⟩)) ?_
            refine And.intro (ob_extract rfl (wt_none rfl) (ev_dep (j := 1) (by kernel_rfl) rfl rfl) (fun w2 u hu => by obtain ⟨V, rfl, h1⟩ := hu; exact ⟨_, rfl, rfl⟩)) ?_
            refine And.intro (ob_assign rfl (wt_none rfl) (ev_dep (j := 2) (by kernel_rfl) rfl rfl) (fun _ _ h => h)) ?_
            refine And.intro (ob_assign rfl (wt_none rfl) (ev_dep (j := 3) (by kernel_rfl) rfl rfl) (fun _ _ h => h)) ?_
            trivial
          case done4 =>
            refine fun w7 hb7 v0 h0 v1 h1 v2 h2 v3 h3 v4 h4 v5 h5 b hbf => ?_
            obtain rfl := h3; obtain rfl := h5
            clear h0
            clear h1
            have q2 := h2
            have q4 := h4
            simp only [Act.put, List.setIfInBounds_toArray, List.set_cons_zero, List.set_cons_succ] at hbf
            subst hbf
            replace Bk := Bk.below hb7
            replace kks := kks.below hb7
            replace kkd := kkd.below hb7
            replace kkz := kkz.below hb7
            replace kk := kk.below hb7
            replace hV := hV.below hb7
            replace hU := hU.below hb7
            replace hS := hS.below hb7
            replace hX := hX.below hb7
            replace hA := hA.below hb7
            replace hD := hD.below hb7
            replace bb := bb.trans (hb7.mono bb.size)
            have hsz7 := bb.size
            refine ops_done ?_
            have hN := q4
            obtain ⟨AN_, cN_, rfl, _, hmN_⟩ := hN.shape
            go_upto_region 7 with (fail)
            refine flow 18 [Pd.eq (.slice AV p.length cV), Pd.eq (.agg #[.bool (ngB (K).num), .slice Ak (digs 4294967296 (K).num.natAbs).length ck, .slice Dk (digs 4294967296 (K).den).length ek]), pslv .u64 4294967296 (SC), Pd.eq (.slice AU p.length cU), Pd.eq (.agg #[.bool (ngB (K).num), .slice Ak (digs 4294967296 (K).num.natAbs).length ck, .slice Dk (digs 4294967296 (K).den).length ek]), pp (K), pslv .i64 10000 (SC), Pd.eq (.int .i64 1), Pd.eq (.bool false), Pd.eq (.bool false), Pd.eq (.slice AN_ ([] : List Rat).length cN_), Pd.eq (.int .i64 ((([] : List Rat).length : Nat) : Int)), Pd.eq (.bool false), Pd.eq (.bool false), Pd.eq (.bool false), Pd.eq (.int .i64 0), Pd.eq (.bool false), Pd.eq (.bool false)] (by kernel_rfl) (by kernel_rfl) ?ob5 ?done5
            case ob5 =>
              refine And.intro (ob_move rfl (wt_none rfl) (ev_far rfl rfl) (fun _ _ h => h)) ?_
              refine And.intro (ob_load rfl (wt_none rfl) (ev_far rfl rfl) (fun w2 hb => run_loadAll Tryz.underlying28 rfl (by kernel_rfl) (Bk.drew.below hb)) (fun _ _ => rfl)) ?_
              refine And.intro (ob_call2 rfl Tryz.func10 (by kernel_rfl) (wt_none rfl) (ev_dep (j := 0) (by kernel_rfl) rfl rfl) (ev_dep (j := 1) (by kernel_rfl) rfl rfl) (fun w2 u0 u1 hb h0 h1 => by obtain rfl := h0; obtain rfl := h1; exact (HSC.out ▸ fscale_any _ _ p K _ (hV.drew.below hb) (kk.drew.below hb) HBK.out).mono fun e w3 h => by obtain ⟨V, h1, h2, h3⟩ := h; exact ⟨V, h1, h2, h3⟩)) ?_
              refine And.intro (ob_move rfl (wt_none rfl) (ev_far rfl rfl) (fun _ _ h => h)) ?_
              refine And.intro (ob_load rfl (wt_none rfl) (ev_far rfl rfl) (fun w2 hb => run_loadAll Tryz.underlying28 rfl (by kernel_rfl) (Bk.drew.below hb)) (fun _ _ => rfl)) ?_
              refine And.intro (ob_call1 rfl Tryz.func12 (by kernel_rfl) (wt_none rfl) (ev_dep (j := 4) (by kernel_rfl) rfl rfl) (fun w2 u0 hb h0 => by obtain rfl := h0; exact (qof_any _ K _ (kk.drew.below hb) (lK.mono (by omega))).mono fun e w3 h => RetP.pd h)) ?_
              refine And.intro (ob_call2 rfl Tryz.func11 (by kernel_rfl) (wt_none rfl) (ev_dep (j := 3) (by kernel_rfl) rfl rfl) (ev_dep (j := 5) (by kernel_rfl) rfl rfl) (fun w2 u0 u1 hb h0 h1 => by obtain rfl := h0; exact (HSC.out ▸ rscale_any _ _ p K _ (hU.drew.below hb) h1 HRK.out).mono fun e w3 h => by obtain ⟨V, h1, h2, h3⟩ := h; exact ⟨V, h1, h2, h3⟩)) ?_
              refine And.intro (ob_call2 rfl Tryz.func9 (by kernel_rfl) (wt_none rfl) (ev_dep (j := 2) (by kernel_rfl) rfl rfl) (ev_dep (j := 6) (by kernel_rfl) rfl rfl) (fun w2 u0 u1 hb h0 h1 => by exact (is_any _ _ SC SC 1 _ h0 h1 HCL.out HI1.out).mono fun e w3 h => RetV.pd h)) ?_
              refine And.intro (ob_bin rfl (wt_none rfl) (ev_dep (j := 7) (by kernel_rfl) rfl rfl) (ev_const _) (fun _ _ _ hx hy => ⟨.bool ((1 : Int) == 0), by rw [hx, hy]; exact bin_eql_int _ _ _ _ _, congrArg Value.bool (by decide)⟩)) ?_
              refine And.intro (ob_move rfl (wt_none rfl) (ev_dep (j := 8) (by kernel_rfl) rfl rfl) (fun _ _ h => h)) ?_
              refine And.intro (ob_move rfl (wt_dep (c := false) (b := false) (g := 9) rfl (by kernel_rfl) rfl rfl rfl (by exact fun _ _ h => h)) (ev_far rfl rfl) (fun _ _ h => h)) ?_
              refine And.intro (ob_len rfl (wt_dep (c := false) (b := false) (g := 9) rfl (by kernel_rfl) rfl rfl rfl (by exact fun _ _ h => h)) (ev_dep (j := 10) (by kernel_rfl) rfl rfl) (fun _ _ hx => ⟨_, by rw [hx]; exact len_slice Tryz.underlying22 _ _ _ _, rfl⟩)) ?_
              refine And.intro (ob_bin rfl (wt_dep (c := false) (b := false) (g := 9) rfl (by kernel_rfl) rfl rfl rfl (by exact fun _ _ h => h)) (ev_dep (j := 11) (by kernel_rfl) rfl rfl) (ev_const _) (fun _ _ _ hx hy => ⟨.bool false, by rw [hx, hy, bin_neq_int, HE0.out], rfl⟩)) ?_
              refine And.intro (ob_pick (b := false) rfl (wt_none rfl) (ev_dep (j := 9) (by kernel_rfl) rfl rfl) (ev_dep (j := 12) (by kernel_rfl) rfl rfl) (fun _ _ h => h)) ?_
              refine And.intro (ob_move rfl (wt_none rfl) (ev_dep (j := 13) (by kernel_rfl) rfl rfl) (fun _ _ h => h)) ?_
              refine And.intro (ob_move rfl (wt_dep (c := false) (b := false) (g := 14) rfl (by kernel_rfl) rfl rfl rfl (by exact fun _ _ h => h)) (ev_far rfl rfl) (fun _ _ h => h)) ?_
              refine And.intro (ob_bin rfl (wt_dep (c := false) (b := false) (g := 14) rfl (by kernel_rfl) rfl rfl rfl (by exact fun _ _ h => h)) (ev_dep (j := 15) (by kernel_rfl) rfl rfl) (ev_const _) (fun _ _ _ hx hy => ⟨.bool ((0 : Int) != 0), by rw [hx, hy]; exact bin_neq_int _ _ _ _ _, congrArg Value.bool (by decide)⟩)) ?_
              refine And.intro (ob_pick (b := false) rfl (wt_none rfl) (ev_dep (j := 14) (by kernel_rfl) rfl rfl) (ev_dep (j := 16) (by kernel_rfl) rfl rfl) (fun _ _ h => h)) ?_
              trivial
            case done5 =>
              refine fun w8 hb8 v0 h0 v1 h1 v2 h2 v3 h3 v4 h4 v5 h5 v6 h6 v7 h7 v8 h8 v9 h9 v10 h10 v11 h11 v12 h12 v13 h13 v14 h14 v15 h15 v16 h16 v17 h17 b hbf => ?_
              obtain rfl := h0; obtain rfl := h1; obtain rfl := h3; obtain rfl := h4; obtain rfl := h7; obtain rfl := h8; obtain rfl := h9; obtain rfl := h10; obtain rfl := h11; obtain rfl := h12; obtain rfl := h13; obtain rfl := h14; obtain rfl := h15; obtain rfl := h16; obtain rfl := h17
              have q2 := h2
              have q5 := h5
              have q6 := h6
              simp only [Act.put, List.setIfInBounds_toArray, List.set_cons_zero, List.set_cons_succ] at hbf
              subst hbf
              replace Bk := Bk.below hb8
              replace kks := kks.below hb8
              replace kkd := kkd.below hb8
              replace kkz := kkz.below hb8
              replace kk := kk.below hb8
              replace hV := hV.below hb8
              replace hU := hU.below hb8
              replace hS := hS.below hb8
              replace hX := hX.below hb8
              replace hA := hA.below hb8
              replace hD := hD.below hb8
              replace hN := hN.below hb8
              replace bb := bb.trans (hb8.mono bb.size)
              have hsz8 := bb.size
              refine any_done (by kernel_rfl) ?_
              go_upto_region 9 with (fail)
              refine flowp 5 [Pd.eq (.slice AU p.length cU), Pd.eq (.int .i64 ((p.length : Nat) : Int)), Pd.eq (.slice AX q.length cX), Pd.eq (.int .i64 ((q.length : Nat) : Int)), Pd.eq (.bool false)] (by kernel_rfl) ?ob6 ?done6
              case ob6 =>
                refine And.intro (ob_move rfl (wt_none rfl) (ev_far rfl rfl) (fun _ _ h => h)) ?_
                refine And.intro (ob_len rfl (wt_none rfl) (ev_dep (j := 0) (by kernel_rfl) rfl rfl) (fun _ _ hx => ⟨_, by rw [hx]; exact len_slice Tryz.underlying29 _ _ _ _, rfl⟩)) ?_
                refine And.intro (ob_move rfl (wt_none rfl) (ev_far rfl rfl) (fun _ _ h => h)) ?_
                refine And.intro (ob_len rfl (wt_none rfl) (ev_dep (j := 2) (by kernel_rfl) rfl rfl) (fun _ _ hx => ⟨_, by rw [hx]; exact len_slice Tryz.underlying29 _ _ _ _, rfl⟩)) ?_
                refine And.intro (ob_bin rfl (wt_none rfl) (ev_dep (j := 1) (by kernel_rfl) rfl rfl) (ev_dep (j := 3) (by kernel_rfl) rfl rfl) (fun _ _ _ hx hy => ⟨.bool false, by rw [hx, hy, bin_neq_int, HNE.out], rfl⟩)) ?_
                trivial
              case done6 =>
                refine fun w9 hb9 v0 h0 v1 h1 v2 h2 v3 h3 v4 h4 b hbf => ?_
                obtain rfl := h0; obtain rfl := h1; obtain rfl := h2; obtain rfl := h3; obtain rfl := h4
                simp only [Act.put, List.setIfInBounds_toArray, List.set_cons_zero, List.set_cons_succ] at hbf
                subst hbf
                replace Bk := Bk.below hb9
                replace kks := kks.below hb9
                replace kkd := kkd.below hb9
                replace kkz := kkz.below hb9
                replace kk := kk.below hb9
                replace hV := hV.below hb9
                replace hU := hU.below hb9
                replace hS := hS.below hb9
                replace hX := hX.below hb9
                replace hA := hA.below hb9
                replace hD := hD.below hb9
                replace hN := hN.below hb9
                replace bb := bb.trans (hb9.mono bb.size)
                have hsz9 := bb.size
                refine ops_done ?_
                go_upto_region 11 with (fail)
                refine flowp 29 [Pd.eq (.int .i64 0), Pd.eq (.bool true), Pd.eq (.bool true), Pd.eq (.int .i64 0), Pd.eq (.bool true), Pd.eq (.bool true), Pd.eq (.bool true), Pd.eq (.slice AA_ (SU).length cA_), Pd.eq (.slice AU p.length cU), pp ((-1 : Rat)), Pd.eq (.slice AX q.length cX), pslv .i64 10000 (SU), Pd.eq (.int .i64 1), Pd.eq (.bool true), Pd.eq (.bool true), Pd.eq (.bool true), Pd.eq (.slice AD_ (LS).length cD_), Pd.eq (.slice AU p.length cU), Pd.eq (.agg #[.bool (ngB (K).num), .slice Ak (digs 4294967296 (K).num.natAbs).length ck, .slice Dk (digs 4294967296 (K).den).length ek]), pp (K), Pd.eq (.slice AX q.length cX), pslv .i64 10000 (LS), Pd.eq (.int .i64 1), Pd.eq (.bool true), Pd.eq (.bool true), Pd.eq (.bool true), Pd.eq (.bool true), Pd.eq (.bool true), Pd.eq (.bool true)] (by kernel_rfl) ?ob7 ?done7
                case ob7 =>
                  refine And.intro (ob_move rfl (wt_none rfl) (ev_far rfl rfl) (fun _ _ h => h)) ?_
                  refine And.intro (ob_bin rfl (wt_none rfl) (ev_dep (j := 0) (by kernel_rfl) rfl rfl) (ev_const _) (fun _ _ _ hx hy => ⟨.bool ((0 : Int) == 0), by rw [hx, hy]; exact bin_eql_int _ _ _ _ _, congrArg Value.bool (by decide)⟩)) ?_
                  refine And.intro (ob_move rfl (wt_none rfl) (ev_dep (j := 1) (by kernel_rfl) rfl rfl) (fun _ _ h => h)) ?_
                  refine And.intro (ob_move rfl (wt_dep (c := true) (b := true) (g := 2) rfl (by kernel_rfl) rfl rfl rfl (by exact fun _ _ h => h)) (ev_far rfl rfl) (fun _ _ h => h)) ?_
                  refine And.intro (ob_bin rfl (wt_dep (c := true) (b := true) (g := 2) rfl (by kernel_rfl) rfl rfl rfl (by exact fun _ _ h => h)) (ev_dep (j := 3) (by kernel_rfl) rfl rfl) (ev_const _) (fun _ _ _ hx hy => ⟨.bool ((0 : Int) == 0), by rw [hx, hy]; exact bin_eql_int _ _ _ _ _, congrArg Value.bool (by decide)⟩)) ?_
                  refine And.intro (ob_pick (b := true) rfl (wt_none rfl) (ev_dep (j := 2) (by kernel_rfl) rfl rfl) (ev_dep (j := 4) (by kernel_rfl) rfl rfl) (fun _ _ h => h)) ?_
                  refine And.intro (ob_move rfl (wt_none rfl) (ev_dep (j := 5) (by kernel_rfl) rfl rfl) (fun _ _ h => h)) ?_
                  refine And.intro (ob_move rfl (wt_dep (c := true) (b := true) (g := 6) rfl (by kernel_rfl) rfl rfl rfl (by exact fun _ _ h => h)) (ev_far rfl rfl) (fun _ _ h => h)) ?_
                  refine And.intro (ob_move rfl (wt_dep (c := true) (b := true) (g := 6) rfl (by kernel_rfl) rfl rfl rfl (by exact fun _ _ h => h)) (ev_far rfl rfl) (fun _ _ h => h)) ?_
                  refine And.intro (ob_call2 rfl Tryz.func15 (by kernel_rfl) (wt_dep (c := true) (b := true) (g := 6) rfl (by kernel_rfl) rfl rfl rfl (by exact fun _ _ h => h)) (ev_const _) (ev_const _) (fun w2 u0 u1 hb h0 h1 => by obtain rfl := h0; obtain rfl := h1; exact (qnum_any (-1) 1 _ 1 rfl (by omega) (by omega) (by omega) (by omega)).mono fun e w3 h => RetPF.pd ((show mkRat (-1) 1 = (-1 : Rat) by decide +kernel) ▸ h))) ?_
                  refine And.intro (ob_move rfl (wt_dep (c := true) (b := true) (g := 6) rfl (by kernel_rfl) rfl rfl rfl (by exact fun _ _ h => h)) (ev_far rfl rfl) (fun _ _ h => h)) ?_
                  refine And.intro (ob_call3 rfl Tryz.func14 (by kernel_rfl) (wt_dep (c := true) (b := true) (g := 6) rfl (by kernel_rfl) rfl rfl rfl (by exact fun _ _ h => h)) (ev_dep (j := 8) (by kernel_rfl) rfl rfl) (ev_dep (j := 9) (by kernel_rfl) rfl rfl) (ev_dep (j := 10) (by kernel_rfl) rfl rfl) (fun w2 u0 u1 u2 hb h0 h1 h2 => by obtain rfl := h0; obtain rfl := h2; exact (HLN.out ▸ rless_any _ _ _ p (-1 : Rat) q _ (hU.below hb) h1 (hX.below hb) HE.out HR1.out).mono fun e w3 h => by obtain ⟨V, h1, h2, h3⟩ := h; exact ⟨V, h1, h2, h3⟩)) ?_
                  refine And.intro (ob_call2 rfl Tryz.func9 (by kernel_rfl) (wt_dep (c := true) (b := true) (g := 6) rfl (by kernel_rfl) rfl rfl rfl (by exact fun _ _ h => h)) (ev_dep (j := 7) (by kernel_rfl) rfl rfl) (ev_dep (j := 11) (by kernel_rfl) rfl rfl) (fun w2 u0 u1 hb h0 h1 => by obtain rfl := h0; exact (is_any _ _ SU SU 1 _ (hA.below hb) h1 HSL.out HI2.out).mono fun e w3 h => RetV.pd h)) ?_
                  refine And.intro (ob_bin rfl (wt_dep (c := true) (b := true) (g := 6) rfl (by kernel_rfl) rfl rfl rfl (by exact fun _ _ h => h)) (ev_dep (j := 12) (by kernel_rfl) rfl rfl) (ev_const _) (fun _ _ _ hx hy => ⟨.bool ((1 : Int) == 1), by rw [hx, hy]; exact bin_eql_int _ _ _ _ _, congrArg Value.bool (by decide)⟩)) ?_
                  refine And.intro (ob_pick (b := true) rfl (wt_none rfl) (ev_dep (j := 6) (by kernel_rfl) rfl rfl) (ev_dep (j := 13) (by kernel_rfl) rfl rfl) (fun _ _ h => h)) ?_
                  refine And.intro (ob_move rfl (wt_none rfl) (ev_dep (j := 14) (by kernel_rfl) rfl rfl) (fun _ _ h => h)) ?_
                  refine And.intro (ob_move rfl (wt_dep (c := true) (b := true) (g := 15) rfl (by kernel_rfl) rfl rfl rfl (by exact fun _ _ h => h)) (ev_far rfl rfl) (fun _ _ h => h)) ?_
                  refine And.intro (ob_move rfl (wt_dep (c := true) (b := true) (g := 15) rfl (by kernel_rfl) rfl rfl rfl (by exact fun _ _ h => h)) (ev_far rfl rfl) (fun _ _ h => h)) ?_
                  refine And.intro (ob_load rfl (wt_dep (c := true) (b := true) (g := 15) rfl (by kernel_rfl) rfl rfl rfl (by exact fun _ _ h => h)) (ev_far rfl rfl) (fun w2 hb => run_loadAll Tryz.underlying28 rfl (by kernel_rfl) (Bk.below hb)) (fun _ _ => rfl)) ?_
                  refine And.intro (ob_call1 rfl Tryz.func12 (by kernel_rfl) (wt_dep (c := true) (b := true) (g := 15) rfl (by kernel_rfl) rfl rfl rfl (by exact fun _ _ h => h)) (ev_dep (j := 18) (by kernel_rfl) rfl rfl) (fun w2 u0 hb h0 => by obtain rfl := h0; exact (qof_any _ K _ (kk.below hb) (lK.mono (by omega))).mono fun e w3 h => RetP.pd h)) ?_
                  refine And.intro (ob_move rfl (wt_dep (c := true) (b := true) (g := 15) rfl (by kernel_rfl) rfl rfl rfl (by exact fun _ _ h => h)) (ev_far rfl rfl) (fun _ _ h => h)) ?_
                  refine And.intro (ob_call3 rfl Tryz.func14 (by kernel_rfl) (wt_dep (c := true) (b := true) (g := 15) rfl (by kernel_rfl) rfl rfl rfl (by exact fun _ _ h => h)) (ev_dep (j := 17) (by kernel_rfl) rfl rfl) (ev_dep (j := 19) (by kernel_rfl) rfl rfl) (ev_dep (j := 20) (by kernel_rfl) rfl rfl) (fun w2 u0 u1 u2 hb h0 h1 h2 => by obtain rfl := h0; obtain rfl := h2; exact (HLS.out ▸ rless_any _ _ _ p K q _ (hU.below hb) h1 (hX.below hb) HE.out HR2.out).mono fun e w3 h => by obtain ⟨V, h1, h2, h3⟩ := h; exact ⟨V, h1, h2, h3⟩)) ?_
                  refine And.intro (ob_call2 rfl Tryz.func9 (by kernel_rfl) (wt_dep (c := true) (b := true) (g := 15) rfl (by kernel_rfl) rfl rfl rfl (by exact fun _ _ h => h)) (ev_dep (j := 16) (by kernel_rfl) rfl rfl) (ev_dep (j := 21) (by kernel_rfl) rfl rfl) (fun w2 u0 u1 hb h0 h1 => by obtain rfl := h0; exact (is_any _ _ LS LS 1 _ (hD.below hb) h1 HLL.out HI3.out).mono fun e w3 h => RetV.pd h)) ?_
                  refine And.intro (ob_bin rfl (wt_dep (c := true) (b := true) (g := 15) rfl (by kernel_rfl) rfl rfl rfl (by exact fun _ _ h => h)) (ev_dep (j := 22) (by kernel_rfl) rfl rfl) (ev_const _) (fun _ _ _ hx hy => ⟨.bool ((1 : Int) == 1), by rw [hx, hy]; exact bin_eql_int _ _ _ _ _, congrArg Value.bool (by decide)⟩)) ?_
                  refine And.intro (ob_pick (b := true) rfl (wt_none rfl) (ev_dep (j := 15) (by kernel_rfl) rfl rfl) (ev_dep (j := 23) (by kernel_rfl) rfl rfl) (fun _ _ h => h)) ?_
                  refine And.intro (ob_move rfl (wt_none rfl) (ev_dep (j := 24) (by kernel_rfl) rfl rfl) (fun _ _ h => h)) ?_
                  refine And.intro (ob_call0 rfl Tryz.func13 (by kernel_rfl) (wt_dep (c := true) (b := true) (g := 25) rfl (by kernel_rfl) rfl rfl rfl (by exact fun _ _ h => h)) (fun w2 hb => (works11_any _).mono fun e w3 h => RetV.pd h)) ?_
                  refine And.intro (ob_pick (b := true) rfl (wt_none rfl) (ev_dep (j := 25) (by kernel_rfl) rfl rfl) (ev_dep (j := 26) (by kernel_rfl) rfl rfl) (fun _ _ h => h)) ?_
                  refine And.intro (ob_assign rfl (wt_none rfl) (ev_dep (j := 27) (by kernel_rfl) rfl rfl) (fun _ _ h => h)) ?_
                  trivial
                case done7 =>
                  refine fun w10 hb10 v0 h0 v1 h1 v2 h2 v3 h3 v4 h4 v5 h5 v6 h6 v7 h7 v8 h8 v9 h9 v10 h10 v11 h11 v12 h12 v13 h13 v14 h14 v15 h15 v16 h16 v17 h17 v18 h18 v19 h19 v20 h20 v21 h21 v22 h22 v23 h23 v24 h24 v25 h25 v26 h26 v27 h27 v28 h28 b hbf => ?_
                  obtain rfl := h0; obtain rfl := h1; obtain rfl := h2; obtain rfl := h3; obtain rfl := h4; obtain rfl := h5; obtain rfl := h6; obtain rfl := h7; obtain rfl := h8; obtain rfl := h10; obtain rfl := h12; obtain rfl := h13; obtain rfl := h14; obtain rfl := h15; obtain rfl := h16; obtain rfl := h17; obtain rfl := h18; obtain rfl := h20; obtain rfl := h22; obtain rfl := h23; obtain rfl := h24; obtain rfl := h25; obtain rfl := h26; obtain rfl := h27; obtain rfl := h28
                  have q9 := h9
                  have q11 := h11
                  have q19 := h19
                  have q21 := h21
                  simp only [Act.put, List.setIfInBounds_toArray, List.set_cons_zero, List.set_cons_succ] at hbf
                  subst hbf
                  replace Bk := Bk.below hb10
                  replace kks := kks.below hb10
                  replace kkd := kkd.below hb10
                  replace kkz := kkz.below hb10
                  replace kk := kk.below hb10
                  replace hV := hV.below hb10
                  replace hU := hU.below hb10
                  replace hS := hS.below hb10
                  replace hX := hX.below hb10
                  replace hA := hA.below hb10
                  replace hD := hD.below hb10
                  replace hN := hN.below hb10
                  replace bb := bb.trans (hb10.mono bb.size)
                  have hsz10 := bb.size
                  refine ops_done ?_
                  go_wp2
                  go_ret
                  exact ⟨rfl, bb⟩
    · have HE := Lib.hid he
      have HNE : Hid ((((p.length : Nat) : Int) != ((q.length : Nat) : Int)) = true) := by show _ = _; rw [bne_iff_ne]; omega
      have HBN : Hid (p.length ≤ 8 ∧ q.length ≤ 8 ∧ (∀ x ∈ p, lenQ x 1) ∧ ∀ x ∈ q, lenQ x 1) := ⟨hl8p, hl8q, HQp.out, HQq.out⟩
      clear he
      go_upto_region 4 with (fail)
      refine flowp 9 [Pd.eq (.slice AV p.length cV), Pd.eq (.slice AS q.length cS), pvv (p) (q), psl .u64 4294967296 ([]) 8, psl .u64 4294967296 ([]) 8, pslv .u64 4294967296 ([]), Pd.eq (.int .i64 8), pslv .u64 4294967296 ([]), Pd.eq (.int .i64 8)] (by kernel_rfl) ?ob8 ?done8
      case ob8 =>
        refine And.intro (ob_move rfl (wt_none rfl) (ev_far rfl rfl) (fun _ _ h => h)) ?_
        refine And.intro (ob_move rfl (wt_none rfl) (ev_far rfl rfl) (fun _ _ h => h)) ?_
        refine And.intro (ob_lit2v rfl (wt_none rfl) (ev_dep (j := 0) (by kernel_rfl) rfl rfl) (ev_dep (j := 1) (by kernel_rfl) rfl rfl) Tryz.underlying68 info_slq (fun w2 v hb hv => by obtain rfl := hv; exact hV.below hb) (fun w2 v hb hv => by obtain rfl := hv; exact hS.below hb) (fun _ _ h => h)) ?_
        refine And.intro (ob_call1 rfl Tryz.func7 (by kernel_rfl) (wt_none rfl) (ev_dep (j := 2) (by kernel_rfl) rfl rfl) (fun w2 u0 hb h0 => by exact (fvadd_no _ p q _ h0 HE.out HBN.out).mono fun e w3 h => RetQLE.pd h)) ?_
        refine And.intro (ob_move rfl (wt_none rfl) (ev_dep (j := 3) (by kernel_rfl) rfl rfl) (fun _ _ h => h)) ?_
        refine And.intro (ob_extract rfl (wt_none rfl) (ev_dep (j := 4) (by kernel_rfl) rfl rfl) (fun w2 u hu => by obtain ⟨V, rfl, h1⟩ := hu; exact ⟨V, rfl, h1⟩)) ?_
        refine And.intro (ob_extract rfl (wt_none rfl) (ev_dep (j := 4) (by kernel_rfl) rfl rfl) (fun w2 u hu => by obtain ⟨V, rfl, h1⟩ := hu; exact ⟨_, rfl, rfl⟩)) ?_
        refine And.intro (ob_assign rfl (wt_none rfl) (ev_dep (j := 5) (by kernel_rfl) rfl rfl) (fun _ _ h => h)) ?_
        refine And.intro (ob_assign rfl (wt_none rfl) (ev_dep (j := 6) (by kernel_rfl) rfl rfl) (fun _ _ h => h)) ?_
        trivial
      case done8 =>
        refine fun w5 hb5 v0 h0 v1 h1 v2 h2 v3 h3 v4 h4 v5 h5 v6 h6 v7 h7 v8 h8 b hbf => ?_
        obtain rfl := h0; obtain rfl := h1; obtain rfl := h6; obtain rfl := h8
        have q2 := h2
        clear h3
        clear h4
        have q5 := h5
        have q7 := h7
        simp only [Act.put, List.setIfInBounds_toArray, List.set_cons_zero, List.set_cons_succ] at hbf
        subst hbf
        replace Bk := Bk.below hb5
        replace kks := kks.below hb5
        replace kkd := kkd.below hb5
        replace kkz := kkz.below hb5
        replace kk := kk.below hb5
        replace hV := hV.below hb5
        replace hU := hU.below hb5
        replace hS := hS.below hb5
        replace hX := hX.below hb5
        replace bb := bb.trans (hb5.mono bb.size)
        have hsz5 := bb.size
        refine ops_done ?_
        have hA := q7
        obtain ⟨AA_, cA_, rfl, _, hmA_⟩ := hA.shape
        go_upto_region 5 with (fail)
        refine flowp 9 [Pd.eq (.slice AV p.length cV), Pd.eq (.agg #[.bool (ngB (K).num), .slice Ak (digs 4294967296 (K).num.natAbs).length ck, .slice Dk (digs 4294967296 (K).den).length ek]), Pd.eq (.slice AS q.length cS), psl .u64 4294967296 ([]) 8, psl .u64 4294967296 ([]) 8, pslv .u64 4294967296 ([]), Pd.eq (.int .i64 8), pslv .u64 4294967296 ([]), Pd.eq (.int .i64 8)] (by kernel_rfl) ?ob9 ?done9
        case ob9 =>
          refine And.intro (ob_move rfl (wt_none rfl) (ev_far rfl rfl) (fun _ _ h => h)) ?_
          refine And.intro (ob_load rfl (wt_none rfl) (ev_far rfl rfl) (fun w2 hb => run_loadAll Tryz.underlying28 rfl (by kernel_rfl) (Bk.below hb)) (fun _ _ => rfl)) ?_
          refine And.intro (ob_move rfl (wt_none rfl) (ev_far rfl rfl) (fun _ _ h => h)) ?_
          refine And.intro (ob_call3 rfl Tryz.func8 (by kernel_rfl) (wt_none rfl) (ev_dep (j := 0) (by kernel_rfl) rfl rfl) (ev_dep (j := 1) (by kernel_rfl) rfl rfl) (ev_dep (j := 2) (by kernel_rfl) rfl rfl) (fun w2 u0 u1 u2 hb h0 h1 h2 => by obtain rfl := h0; obtain rfl := h1; obtain rfl := h2; exact (fless_no _ _ _ p K q _ (hV.below hb) (kk.below hb) (hS.below hb) HE.out).mono fun e w3 h => RetQLE.pd h)) ?_
          refine And.intro (ob_move rfl (wt_none rfl) (ev_dep (j := 3) (by kernel_rfl) rfl rfl) (fun _ _ h => h)) ?_
          refine And.intro (ob_extract rfl (wt_none rfl) (ev_dep (j := 4) (by kernel_rfl) rfl rfl) (fun w2 u hu => by obtain ⟨V, rfl, h1⟩ := hu; exact ⟨V, rfl, h1⟩)) ?_
          refine And.intro (ob_extract rfl (wt_none rfl) (ev_dep (j := 4) (by kernel_rfl) rfl rfl) (fun w2 u hu => by obtain ⟨V, rfl, h1⟩ := hu; exact ⟨_, rfl, rfl⟩)) ?_
          refine And.intro (ob_assign rfl (wt_none rfl) (ev_dep (j := 5) (by kernel_rfl) rfl rfl) (fun _ _ h => h)) ?_
          refine And.intro (ob_assign rfl (wt_none rfl) (ev_dep (j := 6) (by kernel_rfl) rfl rfl) (fun _ _ h => h)) ?_
          trivial
        case done9 =>
          refine fun w6 hb6 v0 h0 v1 h1 v2 h2 v3 h3 v4 h4 v5 h5 v6 h6 v7 h7 v8 h8 b hbf => ?_
          obtain rfl := h0; obtain rfl := h1; obtain rfl := h2; obtain rfl := h6; obtain rfl := h8
          clear h3
          clear h4
          have q5 := h5
          have q7 := h7
          simp only [Act.put, List.setIfInBounds_toArray, List.set_cons_zero, List.set_cons_succ] at hbf
          subst hbf
          replace Bk := Bk.below hb6
          replace kks := kks.below hb6
          replace kkd := kkd.below hb6
          replace kkz := kkz.below hb6
          replace kk := kk.below hb6
          replace hV := hV.below hb6
          replace hU := hU.below hb6
          replace hS := hS.below hb6
          replace hX := hX.below hb6
          replace hA := hA.below hb6
          replace bb := bb.trans (hb6.mono bb.size)
          have hsz6 := bb.size
          refine ops_done ?_
          have hD := q7
          obtain ⟨AD_, cD_, rfl, _, hmD_⟩ := hD.shape
          go_upto_region 6 with (fail)
          refine flowp 6 [psl .u64 4294967296 ([]) 0, psl .u64 4294967296 ([]) 0, pslv .u64 4294967296 ([]), Pd.eq (.int .i64 0), pslv .u64 4294967296 ([]), Pd.eq (.int .i64 0)] (by kernel_rfl) ?ob10 ?done10
          case ob10 =>
            refine And.intro (ob_call1 rfl Tryz.func7 (by kernel_rfl) (wt_none rfl) (ev_const _) (fun w2 u0 hb h0 => by obtain rfl := h0; exact (fvadd_none _).mono fun e w3 h => RetQLE.pd h)) ?_
            refine And.intro (ob_move rfl (wt_none rfl) (ev_dep (j := 0) (by kernel_rfl) rfl rfl) (fun _ _ h => h)) ?_
            refine And.intro (ob_extract rfl (wt_none rfl) (ev_dep (j := 1) (by kernel_rfl) rfl rfl) (fun w2 u hu => by obtain ⟨V, rfl, h1⟩ := hu; exact ⟨V, rfl, h1⟩)) ?_
            refine And.intro (ob_extract rfl (wt_none rfl) (ev_dep (j := 1) (by kernel_rfl) rfl rfl) (fun w2 u hu => by obtain ⟨V, rfl, h1⟩ := hu; exact ⟨_, rfl, rfl⟩)) ?_
            refine And.intro (ob_assign rfl (wt_none rfl) (ev_dep (j := 2) (by kernel_rfl) rfl rfl) (fun _ _ h => h)) ?_
            refine And.intro (ob_assign rfl (wt_none rfl) (ev_dep (j := 3) (by kernel_rfl) rfl rfl) (fun _ _ h => h)) ?_
            trivial
          case done10 =>
            refine fun w7 hb7 v0 h0 v1 h1 v2 h2 v3 h3 v4 h4 v5 h5 b hbf => ?_
            obtain rfl := h3; obtain rfl := h5
            clear h0
            clear h1
            have q2 := h2
            have q4 := h4
            simp only [Act.put, List.setIfInBounds_toArray, List.set_cons_zero, List.set_cons_succ] at hbf
            subst hbf
            replace Bk := Bk.below hb7
            replace kks := kks.below hb7
            replace kkd := kkd.below hb7
            replace kkz := kkz.below hb7
            replace kk := kk.below hb7
            replace hV := hV.below hb7
            replace hU := hU.below hb7
            replace hS := hS.below hb7
            replace hX := hX.below hb7
            replace hA := hA.below hb7
            replace hD := hD.below hb7
            replace bb := bb.trans (hb7.mono bb.size)
            have hsz7 := bb.size
            refine ops_done ?_
            have hN := q4
            obtain ⟨AN_, cN_, rfl, _, hmN_⟩ := hN.shape
            go_upto_region 7 with (fail)
            refine flow 18 [Pd.eq (.slice AV p.length cV), Pd.eq (.agg #[.bool (ngB (K).num), .slice Ak (digs 4294967296 (K).num.natAbs).length ck, .slice Dk (digs 4294967296 (K).den).length ek]), pslv .u64 4294967296 (SC), Pd.eq (.slice AU p.length cU), Pd.eq (.agg #[.bool (ngB (K).num), .slice Ak (digs 4294967296 (K).num.natAbs).length ck, .slice Dk (digs 4294967296 (K).den).length ek]), pp (K), pslv .i64 10000 (SC), Pd.eq (.int .i64 1), Pd.eq (.bool false), Pd.eq (.bool false), Pd.eq (.slice AN_ ([] : List Rat).length cN_), Pd.eq (.int .i64 ((([] : List Rat).length : Nat) : Int)), Pd.eq (.bool false), Pd.eq (.bool false), Pd.eq (.bool false), Pd.eq (.int .i64 0), Pd.eq (.bool false), Pd.eq (.bool false)] (by kernel_rfl) (by kernel_rfl) ?ob11 ?done11
            case ob11 =>
              refine And.intro (ob_move rfl (wt_none rfl) (ev_far rfl rfl) (fun _ _ h => h)) ?_
              refine And.intro (ob_load rfl (wt_none rfl) (ev_far rfl rfl) (fun w2 hb => run_loadAll Tryz.underlying28 rfl (by kernel_rfl) (Bk.drew.below hb)) (fun _ _ => rfl)) ?_
              refine And.intro (ob_call2 rfl Tryz.func10 (by kernel_rfl) (wt_none rfl) (ev_dep (j := 0) (by kernel_rfl) rfl rfl) (ev_dep (j := 1) (by kernel_rfl) rfl rfl) (fun w2 u0 u1 hb h0 h1 => by obtain rfl := h0; obtain rfl := h1; exact (HSC.out ▸ fscale_any _ _ p K _ (hV.drew.below hb) (kk.drew.below hb) HBK.out).mono fun e w3 h => by obtain ⟨V, h1, h2, h3⟩ := h; exact ⟨V, h1, h2, h3⟩)) ?_
              refine And.intro (ob_move rfl (wt_none rfl) (ev_far rfl rfl) (fun _ _ h => h)) ?_
              refine And.intro (ob_load rfl (wt_none rfl) (ev_far rfl rfl) (fun w2 hb => run_loadAll Tryz.underlying28 rfl (by kernel_rfl) (Bk.drew.below hb)) (fun _ _ => rfl)) ?_
              refine And.intro (ob_call1 rfl Tryz.func12 (by kernel_rfl) (wt_none rfl) (ev_dep (j := 4) (by kernel_rfl) rfl rfl) (fun w2 u0 hb h0 => by obtain rfl := h0; exact (qof_any _ K _ (kk.drew.below hb) (lK.mono (by omega))).mono fun e w3 h => RetP.pd h)) ?_
              refine And.intro (ob_call2 rfl Tryz.func11 (by kernel_rfl) (wt_none rfl) (ev_dep (j := 3) (by kernel_rfl) rfl rfl) (ev_dep (j := 5) (by kernel_rfl) rfl rfl) (fun w2 u0 u1 hb h0 h1 => by obtain rfl := h0; exact (HSC.out ▸ rscale_any _ _ p K _ (hU.drew.below hb) h1 HRK.out).mono fun e w3 h => by obtain ⟨V, h1, h2, h3⟩ := h; exact ⟨V, h1, h2, h3⟩)) ?_
              refine And.intro (ob_call2 rfl Tryz.func9 (by kernel_rfl) (wt_none rfl) (ev_dep (j := 2) (by kernel_rfl) rfl rfl) (ev_dep (j := 6) (by kernel_rfl) rfl rfl) (fun w2 u0 u1 hb h0 h1 => by exact (is_any _ _ SC SC 1 _ h0 h1 HCL.out HI1.out).mono fun e w3 h => RetV.pd h)) ?_
              refine And.intro (ob_bin rfl (wt_none rfl) (ev_dep (j := 7) (by kernel_rfl) rfl rfl) (ev_const _) (fun _ _ _ hx hy => ⟨.bool ((1 : Int) == 0), by rw [hx, hy]; exact bin_eql_int _ _ _ _ _, congrArg Value.bool (by decide)⟩)) ?_
              refine And.intro (ob_move rfl (wt_none rfl) (ev_dep (j := 8) (by kernel_rfl) rfl rfl) (fun _ _ h => h)) ?_
              refine And.intro (ob_move rfl (wt_dep (c := false) (b := false) (g := 9) rfl (by kernel_rfl) rfl rfl rfl (by exact fun _ _ h => h)) (ev_far rfl rfl) (fun _ _ h => h)) ?_
              refine And.intro (ob_len rfl (wt_dep (c := false) (b := false) (g := 9) rfl (by kernel_rfl) rfl rfl rfl (by exact fun _ _ h => h)) (ev_dep (j := 10) (by kernel_rfl) rfl rfl) (fun _ _ hx => ⟨_, by rw [hx]; exact len_slice Tryz.underlying22 _ _ _ _, rfl⟩)) ?_
              refine And.intro (ob_bin rfl (wt_dep (c := false) (b := false) (g := 9) rfl (by kernel_rfl) rfl rfl rfl (by exact fun _ _ h => h)) (ev_dep (j := 11) (by kernel_rfl) rfl rfl) (ev_const _) (fun _ _ _ hx hy => ⟨.bool false, by rw [hx, hy, bin_neq_int, HE0.out], rfl⟩)) ?_
              refine And.intro (ob_pick (b := false) rfl (wt_none rfl) (ev_dep (j := 9) (by kernel_rfl) rfl rfl) (ev_dep (j := 12) (by kernel_rfl) rfl rfl) (fun _ _ h => h)) ?_
              refine And.intro (ob_move rfl (wt_none rfl) (ev_dep (j := 13) (by kernel_rfl) rfl rfl) (fun _ _ h => h)) ?_
              refine And.intro (ob_move rfl (wt_dep (c := false) (b := false) (g := 14) rfl (by kernel_rfl) rfl rfl rfl (by exact fun _ _ h => h)) (ev_far rfl rfl) (fun _ _ h => h)) ?_
              refine And.intro (ob_bin rfl (wt_dep (c := false) (b := false) (g := 14) rfl (by kernel_rfl) rfl rfl rfl (by exact fun _ _ h => h)) (ev_dep (j := 15) (by kernel_rfl) rfl rfl) (ev_const _) (fun _ _ _ hx hy => ⟨.bool ((0 : Int) != 0), by rw [hx, hy]; exact bin_neq_int _ _ _ _ _, congrArg Value.bool (by decide)⟩)) ?_
              refine And.intro (ob_pick (b := false) rfl (wt_none rfl) (ev_dep (j := 14) (by kernel_rfl) rfl rfl) (ev_dep (j := 16) (by kernel_rfl) rfl rfl) (fun _ _ h => h)) ?_
              trivial
            case done11 =>
              refine fun w8 hb8 v0 h0 v1 h1 v2 h2 v3 h3 v4 h4 v5 h5 v6 h6 v7 h7 v8 h8 v9 h9 v10 h10 v11 h11 v12 h12 v13 h13 v14 h14 v15 h15 v16 h16 v17 h17 b hbf => ?_
              obtain rfl := h0; obtain rfl := h1; obtain rfl := h3; obtain rfl := h4; obtain rfl := h7; obtain rfl := h8; obtain rfl := h9; obtain rfl := h10; obtain rfl := h11; obtain rfl := h12; obtain rfl := h13; obtain rfl := h14; obtain rfl := h15; obtain rfl := h16; obtain rfl := h17
              have q2 := h2
              have q5 := h5
              have q6 := h6
              simp only [Act.put, List.setIfInBounds_toArray, List.set_cons_zero, List.set_cons_succ] at hbf
              subst hbf
              replace Bk := Bk.below hb8
              replace kks := kks.below hb8
              replace kkd := kkd.below hb8
              replace kkz := kkz.below hb8
              replace kk := kk.below hb8
              replace hV := hV.below hb8
              replace hU := hU.below hb8
              replace hS := hS.below hb8
              replace hX := hX.below hb8
              replace hA := hA.below hb8
              replace hD := hD.below hb8
              replace hN := hN.below hb8
              replace bb := bb.trans (hb8.mono bb.size)
              have hsz8 := bb.size
              refine any_done (by kernel_rfl) ?_
              go_upto_region 9 with (fail)
              refine flowp 5 [Pd.eq (.slice AU p.length cU), Pd.eq (.int .i64 ((p.length : Nat) : Int)), Pd.eq (.slice AX q.length cX), Pd.eq (.int .i64 ((q.length : Nat) : Int)), Pd.eq (.bool true)] (by kernel_rfl) ?ob12 ?done12
              case ob12 =>
                refine And.intro (ob_move rfl (wt_none rfl) (ev_far rfl rfl) (fun _ _ h => h)) ?_
                refine And.intro (ob_len rfl (wt_none rfl) (ev_dep (j := 0) (by kernel_rfl) rfl rfl) (fun _ _ hx => ⟨_, by rw [hx]; exact len_slice Tryz.underlying29 _ _ _ _, rfl⟩)) ?_
                refine And.intro (ob_move rfl (wt_none rfl) (ev_far rfl rfl) (fun _ _ h => h)) ?_
                refine And.intro (ob_len rfl (wt_none rfl) (ev_dep (j := 2) (by kernel_rfl) rfl rfl) (fun _ _ hx => ⟨_, by rw [hx]; exact len_slice Tryz.underlying29 _ _ _ _, rfl⟩)) ?_
                refine And.intro (ob_bin rfl (wt_none rfl) (ev_dep (j := 1) (by kernel_rfl) rfl rfl) (ev_dep (j := 3) (by kernel_rfl) rfl rfl) (fun _ _ _ hx hy => ⟨.bool true, by rw [hx, hy, bin_neq_int, HNE.out], rfl⟩)) ?_
                trivial
              case done12 =>
                refine fun w9 hb9 v0 h0 v1 h1 v2 h2 v3 h3 v4 h4 b hbf => ?_
                obtain rfl := h0; obtain rfl := h1; obtain rfl := h2; obtain rfl := h3; obtain rfl := h4
                simp only [Act.put, List.setIfInBounds_toArray, List.set_cons_zero, List.set_cons_succ] at hbf
                subst hbf
                replace Bk := Bk.below hb9
                replace kks := kks.below hb9
                replace kkd := kkd.below hb9
                replace kkz := kkz.below hb9
                replace kk := kk.below hb9
                replace hV := hV.below hb9
                replace hU := hU.below hb9
                replace hS := hS.below hb9
                replace hX := hX.below hb9
                replace hA := hA.below hb9
                replace hD := hD.below hb9
                replace hN := hN.below hb9
                replace bb := bb.trans (hb9.mono bb.size)
                have hsz9 := bb.size
                refine ops_done ?_
                go_upto_region 10 with (fail)
                refine flowp 19 [Pd.eq (.int .i64 8), Pd.eq (.bool true), Pd.eq (.bool true), Pd.eq (.int .i64 8), Pd.eq (.int .i64 8), Pd.eq (.bool true), Pd.eq (.bool true), Pd.eq (.bool true), Pd.eq (.slice AA_ ([] : List Rat).length cA_), Pd.eq (.int .i64 ((([] : List Rat).length : Nat) : Int)), Pd.eq (.slice AD_ ([] : List Rat).length cD_), Pd.eq (.int .i64 ((([] : List Rat).length : Nat) : Int)), Pd.eq (.int .i64 0), Pd.eq (.bool true), Pd.eq (.bool true), Pd.eq (.bool true), Pd.eq (.bool true), Pd.eq (.bool true), Pd.eq (.bool true)] (by kernel_rfl) ?ob13 ?done13
                case ob13 =>
                  refine And.intro (ob_move rfl (wt_none rfl) (ev_far rfl rfl) (fun _ _ h => h)) ?_
                  refine And.intro (ob_bin rfl (wt_none rfl) (ev_dep (j := 0) (by kernel_rfl) rfl rfl) (ev_const _) (fun _ _ _ hx hy => ⟨.bool ((8 : Int) == 8), by rw [hx, hy]; exact bin_eql_int _ _ _ _ _, congrArg Value.bool (by decide)⟩)) ?_
                  refine And.intro (ob_move rfl (wt_none rfl) (ev_dep (j := 1) (by kernel_rfl) rfl rfl) (fun _ _ h => h)) ?_
                  refine And.intro (ob_move rfl (wt_dep (c := true) (b := true) (g := 2) rfl (by kernel_rfl) rfl rfl rfl (by exact fun _ _ h => h)) (ev_far rfl rfl) (fun _ _ h => h)) ?_
                  refine And.intro (ob_move rfl (wt_dep (c := true) (b := true) (g := 2) rfl (by kernel_rfl) rfl rfl rfl (by exact fun _ _ h => h)) (ev_far rfl rfl) (fun _ _ h => h)) ?_
                  refine And.intro (ob_bin rfl (wt_dep (c := true) (b := true) (g := 2) rfl (by kernel_rfl) rfl rfl rfl (by exact fun _ _ h => h)) (ev_dep (j := 3) (by kernel_rfl) rfl rfl) (ev_dep (j := 4) (by kernel_rfl) rfl rfl) (fun _ _ _ hx hy => ⟨.bool ((8 : Int) == 8), by rw [hx, hy]; exact bin_eql_int _ _ _ _ _, congrArg Value.bool (by decide)⟩)) ?_
                  refine And.intro (ob_pick (b := true) rfl (wt_none rfl) (ev_dep (j := 2) (by kernel_rfl) rfl rfl) (ev_dep (j := 5) (by kernel_rfl) rfl rfl) (fun _ _ h => h)) ?_
                  refine And.intro (ob_move rfl (wt_none rfl) (ev_dep (j := 6) (by kernel_rfl) rfl rfl) (fun _ _ h => h)) ?_
                  refine And.intro (ob_move rfl (wt_dep (c := true) (b := true) (g := 7) rfl (by kernel_rfl) rfl rfl rfl (by exact fun _ _ h => h)) (ev_far rfl rfl) (fun _ _ h => h)) ?_
                  refine And.intro (ob_len rfl (wt_dep (c := true) (b := true) (g := 7) rfl (by kernel_rfl) rfl rfl rfl (by exact fun _ _ h => h)) (ev_dep (j := 8) (by kernel_rfl) rfl rfl) (fun _ _ hx => ⟨_, by rw [hx]; exact len_slice Tryz.underlying22 _ _ _ _, rfl⟩)) ?_
                  refine And.intro (ob_move rfl (wt_dep (c := true) (b := true) (g := 7) rfl (by kernel_rfl) rfl rfl rfl (by exact fun _ _ h => h)) (ev_far rfl rfl) (fun _ _ h => h)) ?_
                  refine And.intro (ob_len rfl (wt_dep (c := true) (b := true) (g := 7) rfl (by kernel_rfl) rfl rfl rfl (by exact fun _ _ h => h)) (ev_dep (j := 10) (by kernel_rfl) rfl rfl) (fun _ _ hx => ⟨_, by rw [hx]; exact len_slice Tryz.underlying22 _ _ _ _, rfl⟩)) ?_
                  refine And.intro (ob_bin rfl (wt_dep (c := true) (b := true) (g := 7) rfl (by kernel_rfl) rfl rfl rfl (by exact fun _ _ h => h)) (ev_dep (j := 9) (by kernel_rfl) rfl rfl) (ev_dep (j := 11) (by kernel_rfl) rfl rfl) (fun _ _ _ hx hy => ⟨_, by rw [hx, hy]; exact bin_add_nat _ _ 0 0 (by omega) _, rfl⟩)) ?_
                  refine And.intro (ob_bin rfl (wt_dep (c := true) (b := true) (g := 7) rfl (by kernel_rfl) rfl rfl rfl (by exact fun _ _ h => h)) (ev_dep (j := 12) (by kernel_rfl) rfl rfl) (ev_const _) (fun _ _ _ hx hy => ⟨.bool ((0 : Int) == 0), by rw [hx, hy]; exact bin_eql_int _ _ _ _ _, congrArg Value.bool (by decide)⟩)) ?_
                  refine And.intro (ob_pick (b := true) rfl (wt_none rfl) (ev_dep (j := 7) (by kernel_rfl) rfl rfl) (ev_dep (j := 13) (by kernel_rfl) rfl rfl) (fun _ _ h => h)) ?_
                  refine And.intro (ob_move rfl (wt_none rfl) (ev_dep (j := 14) (by kernel_rfl) rfl rfl) (fun _ _ h => h)) ?_
                  refine And.intro (ob_call0 rfl Tryz.func13 (by kernel_rfl) (wt_dep (c := true) (b := true) (g := 15) rfl (by kernel_rfl) rfl rfl rfl (by exact fun _ _ h => h)) (fun w2 hb => (works11_any _).mono fun e w3 h => RetV.pd h)) ?_
                  refine And.intro (ob_pick (b := true) rfl (wt_none rfl) (ev_dep (j := 15) (by kernel_rfl) rfl rfl) (ev_dep (j := 16) (by kernel_rfl) rfl rfl) (fun _ _ h => h)) ?_
                  refine And.intro (ob_assign rfl (wt_none rfl) (ev_dep (j := 17) (by kernel_rfl) rfl rfl) (fun _ _ h => h)) ?_
                  trivial
                case done13 =>
                  refine fun w10 hb10 v0 h0 v1 h1 v2 h2 v3 h3 v4 h4 v5 h5 v6 h6 v7 h7 v8 h8 v9 h9 v10 h10 v11 h11 v12 h12 v13 h13 v14 h14 v15 h15 v16 h16 v17 h17 v18 h18 b hbf => ?_
                  obtain rfl := h0; obtain rfl := h1; obtain rfl := h2; obtain rfl := h3; obtain rfl := h4; obtain rfl := h5; obtain rfl := h6; obtain rfl := h7; obtain rfl := h8; obtain rfl := h9; obtain rfl := h10; obtain rfl := h11; obtain rfl := h12; obtain rfl := h13; obtain rfl := h14; obtain rfl := h15; obtain rfl := h16; obtain rfl := h17; obtain rfl := h18
                  simp only [Act.put, List.setIfInBounds_toArray, List.set_cons_zero, List.set_cons_succ] at hbf
                  subst hbf
                  replace Bk := Bk.below hb10
                  replace kks := kks.below hb10
                  replace kkd := kkd.below hb10
                  replace kkz := kkz.below hb10
                  replace kk := kk.below hb10
                  replace hV := hV.below hb10
                  replace hU := hU.below hb10
                  replace hS := hS.below hb10
                  replace hX := hX.below hb10
                  replace hA := hA.below hb10
                  replace hD := hD.below hb10
                  replace hN := hN.below hb10
                  replace bb := bb.trans (hb10.mono bb.size)
                  have hsz10 := bb.size
                  refine ops_done ?_
                  go_wp2
                  go_ret
                  exact ⟨rfl, bb⟩
set_option maxRecDepth 100000 in
theorem lifted (os : Os) (started : os.Started) (H : Type) (enc : TypeId × Value → H) :
    ReturnsInHanded {} Tryz.checked os 3 .any (Rows.vectAddsSpec.pre6 enc Tryz.prog Tryz.f3 Rows.vectAddsRow.domain false) (Rows.vectAddsSpec.post enc Tryz.prog Tryz.f3 false true false false) := by
  refine returnsInHanded_of_change (C := Tryz.checked) own started (by kernel_rfl) Tryz.func3
    (ChangeSpec.witness6 (enc := enc) (C := Tryz.checked) false ⟨#[], #[.slice none 0 0, .slice none 0 0, .agg #[.bool false, .slice none 0 0, .slice none 0 0]], []⟩ 8 (by kernel_rfl) (by kernel_rfl) (by kernel_rfl) (by kernel_rfl)) ?_
  intro W base args ds gs before hval0 hW hcnd _
  have hval : ∀ (j : Nat) t v, Tryz.f3.params[j]? = some t → args[j]? = some v → Value.okWide Tryz.prog W .any base t v := hval0
  have hW' := hW
  obtain ⟨p, q, hA0, hV, rfl, hfz, hnd⟩ := hW
  have hA : DataW.TrodAll enc Tryz.prog W 0 (fun _ => true) true Tryz.f3.params.toList args.toList ds p := hA0
  rw [Tryz.params3] at hA hval
  obtain ⟨v0, vs0, d0, ds0, p0, q0, hargs, rfl, rfl, t0, r0⟩ := trodAll_cons hA
  obtain ⟨v1, vs1, d1, ds1, p1, q1, rfl, rfl, rfl, t1, r1⟩ := trodAll_cons r0
  obtain ⟨v2, vs2, d2, ds2, p2, q2, rfl, rfl, rfl, t2, r2⟩ := trodAll_cons r1
  obtain ⟨rfl, rfl, rfl⟩ := trodAll_nil r2
  obtain rfl : args = #[v0, v1, v2] := by cases args; simp_all
  obtain ⟨rfl, rfl⟩ := trodVars_none hV
  have hs0 := arg_qs Tryz.underlying22 Tryz.underlying28 (by kernel_rfl) (by kernel_rfl) Tryz.underlying26 (by kernel_rfl) Tryz.underlying4 Tryz.underlying24 Tryz.underlying24 Tryz.underlying63 cells_u (hval 0 22 v0 rfl rfl) t0
  have hs1 := arg_qs Tryz.underlying22 Tryz.underlying28 (by kernel_rfl) (by kernel_rfl) Tryz.underlying26 (by kernel_rfl) Tryz.underlying4 Tryz.underlying24 Tryz.underlying24 Tryz.underlying63 cells_u (hval 1 22 v1 rfl rfl) t1
  obtain ⟨b2, x2, r2_, l2, m2, rfl, hs2, hu2, hj2, hx2⟩ := arg_q Tryz.underlying28 (by kernel_rfl) (by kernel_rfl) Tryz.underlying26 (by kernel_rfl) Tryz.underlying4 Tryz.underlying24 Tryz.underlying24 Tryz.underlying63 cells_u (hval 2 28 v2 rfl rfl) t2
  clear hA0 hval0
  simp only [List.append_nil] at hW'
  have hlt0 : ∀ x ∈ p0, x.block < W.heap.size := fun x hx => hW'.lt x (List.mem_append_left _ hx)
  have hlt1 : ∀ x ∈ p1, x.block < W.heap.size := fun x hx => hW'.lt x (List.mem_append_right _ (List.mem_append_left _ hx))
  have hlt2 : ∀ x ∈ p2, x.block < W.heap.size := fun x hx => hW'.lt x (List.mem_append_right _ (List.mem_append_right _ (hx)))
  refine (walk v0 v1 b2 x2 r2_ l2 m2 W hs0 hs1 hs2 hu2 hj2 hx2).mono fun e W' ⟨he, hb⟩ => ?_
  subst he
  have s0 := Below.trod laidOut (by kernel_rfl) (of_decide_eq_true (by kernel_rfl)) t0 hb hlt0
  have s1 := Below.trod laidOut (by kernel_rfl) (of_decide_eq_true (by kernel_rfl)) t1 hb hlt1
  have s2 := Below.trod laidOut (by kernel_rfl) (of_decide_eq_true (by kernel_rfl)) t2 hb hlt2
  exact ⟨_, rfl, _, _, _, [] ++ [], _, [], hW', trodAll_cons_mk (shut_bool Tryz.underlying4 _) trodAll_mk0, trodAll_cons_mk s0 (trodAll_cons_mk s1 (trodAll_cons_mk s2 (trodAll_mk0))), rfl, hb.frame _, fun h => by cases h⟩
theorem over : Rows.vectAddsRow.holds Tryz.pinned (OpenSpec.ofChange Rows.vectAddsSpec) :=
  OpenClaim.holds_of_wide 3 Tryz.f3 rfl rfl rfl rfl rfl rfl rfl ⟨rfl, rfl, rfl, rfl, rfl⟩ rfl rfl rfl rfl rfl (by kernel_rfl) Tryz.func3 (by kernel_rfl)
    (of_decide_eq_true (by kernel_rfl)) (by unfold Func.isWrapper; first | (rw [if_pos (by decide +kernel)]; kernel_rfl) | (rw [if_neg (by decide +kernel)]; exact ⟨rfl, rfl⟩))
    (fun os started H enc _ => lifted os started H enc)
/-- The statement. -/
theorem proved : Rows.VectAddsSaid := over
end Go.Proofs.YtodpjmbclmlieaaGreat.vectAdds
