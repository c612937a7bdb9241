/- The document's sum of two whole numbers lies in new memory. Condition: sizes are within bounds. -/
import Derived.Test.YtcmjbkgcknimlaaDoorWhlD
namespace Go.Proofs.YtcmjbkgcknimlaaDoor.whl
open Go.RowKit Go.Proofs.YtcmjbkgcknimlaaDoor.num Go.Proofs.YtcmjbkgcknimlaaDoor.mem Go.Proofs.YtcmjbkgcknimlaaDoor.nat Go.Proofs.YtcmjbkgcknimlaaDoor.txt Go.Proofs.YtcmjbkgcknimlaaDoor.str Go.Proofs.YtcmjbkgcknimlaaDoor.flow
set_option linter.unusedVariables false

def prf (z : Int) (B : Nat) : Pd := ⟨fun w v => IsR w v z ∧ FreshZ B v, fun h hb => ⟨h.1.below hb, h.2⟩⟩
/-- The call's answer is this whole number, in new memory. -/
def RetRF (z : Int) (w : World) (e : Ending) (w' : World) : Prop := ∃ v, e = .returned v ∧ IsR w' v z ∧ FreshZ w.heap.size v ∧ Below w.heap.size w w'
theorem RetRF.pd {z : Int} {w : World} {e : Ending} {w' : World} {B : Nat} (h : RetRF z w e w') (hB : B ≤ w.heap.size) : RetPd (prf z B) w e w' := by
  obtain ⟨v, h1, h2, h3, h4⟩ := h
  exact ⟨v, h1, ⟨h2, h3.mono hB⟩, h4⟩
theorem made_pdf (b : Bool) (u : Value) (x : Nat) (z : Int) (w : World) {B : Nat} (h : IsS w .i64 u (digs 10000 x)) (hf : Fresh B u) (hz : sg b x = z) : Calls Tryd.prog 40 #[.bool b, u] w (RetPd (prf z B) w) :=
  (rmade_any b u x w h).mono fun e w' h' => ⟨_, h'.1, ⟨isR_mk (h.below h'.2) (by rw [← hz, sg_abs]) (by rw [hz]), freshZ_mk hf⟩, h'.2⟩
set_option maxHeartbeats 1600000 in
set_option maxRecDepth 100000 in
theorem raddf_any (a0 : Value) (x : Int) (a1 : Value) (y : Int) (w : World) (h0 : IsR w a0 x) (h1 : IsR w a1 y) (hl : lenZ x ≤ 30000) (hl2 : lenZ y ≤ 30000) :
    Calls Tryd.prog 13 #[a0, a1] w (RetRF (x + y) w) := by
  have HL : Hid ((digs 10000 x.natAbs).length ≤ 1000000) := Nat.le_trans (lenZ_dec x) (by omega)
  have HL2 : Hid ((digs 10000 y.natAbs).length ≤ 1000000) := Nat.le_trans (lenZ_dec y) (by omega)
  obtain ⟨u0, rfl, s0⟩ := h0
  obtain ⟨A0, c0, rfl, _⟩ := id s0
  obtain ⟨u1, rfl, s1⟩ := h1
  obtain ⟨A1, c1, rfl, _⟩ := id s1
  rcases hs0 : ngB x with _ | _ <;> rcases hs1 : ngB y with _ | _
  · have HZ : Hid (sg false (x.natAbs + y.natAbs) = x + y) := by show _ = _; have := ngB_false hs0; have := ngB_false hs1; rw [sg_false]; omega
    go_enter Tryd.func13, Tryd.ntmps13
    go_upto_region 1 with (fail)
    obtain ⟨wx, hwx, bb, B0, B1, B2, hsz⟩ := vars3 w 30 30 30 #[.bool false, .slice A0 (digs 10000 (x).natAbs).length c0] #[.bool false, .slice A1 (digs 10000 (y).natAbs).length c1] #[.bool false, .slice none 0 0]
    rw [hwx]
    clear hwx
    have k0s := s0.below bb
    have k0 : IsR wx (.agg #[.bool false, .slice A0 (digs 10000 (x).natAbs).length c0]) (x) := isR_mk k0s rfl hs0.symm
    have k1s := s1.below bb
    have k1 : IsR wx (.agg #[.bool false, .slice A1 (digs 10000 (y).natAbs).length c1]) (y) := isR_mk k1s rfl hs1.symm
    have hszb := bb.size
    refine flowp 5 [Pd.eq (.pointer (some ⟨w.heap.size, 0, none⟩)), Pd.eq (.bool false), Pd.eq (.pointer (some ⟨w.heap.size + 1, 0, none⟩)), Pd.eq (.bool false), Pd.eq (.bool true)] (by kernel_rfl) ?ob9 ?done9
    case ob9 =>
      refine And.intro (ob_fieldAddr rfl (wt_none rfl) (ev_far rfl rfl) (fun _ => by kernel_rfl) (fun _ => rfl)) ?_
      refine And.intro (ob_load rfl (wt_none rfl) (ev_dep (j := 0) (by kernel_rfl) rfl rfl) (fun w2 hb => run_load1 Tryd.underlying4 rfl ((B0.below hb).cell 0)) (fun _ _ => rfl)) ?_
      refine And.intro (ob_fieldAddr rfl (wt_none rfl) (ev_far rfl rfl) (fun _ => by kernel_rfl) (fun _ => rfl)) ?_
      refine And.intro (ob_load rfl (wt_none rfl) (ev_dep (j := 2) (by kernel_rfl) rfl rfl) (fun w2 hb => run_load1 Tryd.underlying4 rfl ((B1.below hb).cell 0)) (fun _ _ => rfl)) ?_
      refine And.intro (ob_bin rfl (wt_none rfl) (ev_dep (j := 1) (by kernel_rfl) rfl rfl) (ev_dep (j := 3) (by kernel_rfl) rfl rfl) (fun _ _ _ hx hy => ⟨.bool (false == false), by rw [hx, hy]; exact bin_eql_bool _ _ _ _ Tryd.underlying4 _, rfl⟩)) ?_
      trivial
    case done9 =>
      refine fun w1 hb1 v0 h0 v1 h1 v2 h2 v3 h3 v4 h4 b hbf => ?_
      obtain rfl := h0; obtain rfl := h1; obtain rfl := h2; obtain rfl := h3; obtain rfl := h4
      simp only [Act.put, List.setIfInBounds_toArray, List.set_cons_zero, List.set_cons_succ] at hbf
      subst hbf
      replace B0 := B0.below hb1
      replace B1 := B1.below hb1
      replace B2 := B2.below hb1
      replace k0s := k0s.below hb1
      replace k1s := k1s.below hb1
      replace k0 := k0.below hb1
      replace k1 := k1.below hb1
      replace bb := bb.trans (hb1.mono bb.size)
      have hszb := bb.size
      obtain ⟨x00, x01, y00, y01⟩ := Blk.two B0
      obtain ⟨x10, x11, y10, y11⟩ := Blk.two B1
      obtain ⟨x20, x21, y20, y21⟩ := Blk.two B2
      refine ops_done ?_
      go_upto_region 2 with (fail)
      refine flow 8 [Pd.eq (.pointer (some ⟨w.heap.size, 0, none⟩)), Pd.eq (.bool false), Pd.eq (.pointer (some ⟨w.heap.size, 1, none⟩)), Pd.eq (.slice A0 (digs 10000 (x).natAbs).length c0), Pd.eq (.pointer (some ⟨w.heap.size + 1, 1, none⟩)), Pd.eq (.slice A1 (digs 10000 (y).natAbs).length c1), ps .i64 (digs 10000 (x.natAbs + y.natAbs)) w1.heap.size, prf (x + y) w1.heap.size] (by kernel_rfl) (by kernel_rfl) ?ob10 ?done10
      case ob10 =>
        refine And.intro (ob_fieldAddr rfl (wt_none rfl) (ev_far rfl rfl) (fun _ => by kernel_rfl) (fun _ => rfl)) ?_
        refine And.intro (ob_load rfl (wt_none rfl) (ev_dep (j := 0) (by kernel_rfl) rfl rfl) (fun w2 hb => run_load1 Tryd.underlying4 rfl ((B0.drew.below hb).cell 0)) (fun _ _ => rfl)) ?_
        refine And.intro (ob_fieldAddr rfl (wt_none rfl) (ev_far rfl rfl) (fun _ => by kernel_rfl) (fun _ => rfl)) ?_
        refine And.intro (ob_load rfl (wt_none rfl) (ev_dep (j := 2) (by kernel_rfl) rfl rfl) (fun w2 hb => run_load1 Tryd.underlying28 rfl ((B0.drew.below hb).cell 1)) (fun _ _ => rfl)) ?_
        refine And.intro (ob_fieldAddr rfl (wt_none rfl) (ev_far rfl rfl) (fun _ => by kernel_rfl) (fun _ => rfl)) ?_
        refine And.intro (ob_load rfl (wt_none rfl) (ev_dep (j := 4) (by kernel_rfl) rfl rfl) (fun w2 hb => run_load1 Tryd.underlying28 rfl ((B1.drew.below hb).cell 1)) (fun _ _ => rfl)) ?_
        refine And.intro (ob_call2 rfl Tryd.func27 (by kernel_rfl) (wt_none rfl) (ev_dep (j := 3) (by kernel_rfl) rfl rfl) (ev_dep (j := 5) (by kernel_rfl) rfl rfl) (fun w2 u0 u1 hb h0 h1 => by obtain rfl := h0; obtain rfl := h1; exact (refAdd_any _ _ _ _ _ (k0s.drew.below hb) (k1s.drew.below hb) HL.out HL2.out).mono fun e w3 h => RetS.pd h hb.size)) ?_
        refine And.intro (ob_call2 rfl Tryd.func40 (by kernel_rfl) (wt_none rfl) (ev_dep (j := 1) (by kernel_rfl) rfl rfl) (ev_dep (j := 6) (by kernel_rfl) rfl rfl) (fun w2 u0 u1 hb h0 h1 => by obtain rfl := h0; exact made_pdf _ _ _ (x + y) _ h1.1 h1.2 HZ.out)) ?_
        trivial
      case done10 =>
        refine fun w2 hb2 v0 h0 v1 h1 v2 h2 v3 h3 v4 h4 v5 h5 v6 h6 v7 h7 b hbf => ?_
        obtain rfl := h0; obtain rfl := h1; obtain rfl := h2; obtain rfl := h3; obtain rfl := h4; obtain rfl := h5
        obtain ⟨q6, f6⟩ := h6
        obtain ⟨q7, f7⟩ := h7
        simp only [Act.put, List.setIfInBounds_toArray, List.set_cons_zero, List.set_cons_succ] at hbf
        subst hbf
        obtain ⟨u7, rfl, q7⟩ := q7
        obtain ⟨A9, c9, rfl, _⟩ := id q7
        have B9 := B2.below hb2
        refine any_store (i := 8) (by kernel_rfl) rfl rfl rfl rfl rfl rfl (cells := [.bool (ngB (x + y)), .slice A9 (digs 10000 (x + y).natAbs).length c9]) rfl B9 rfl (by kernel_rfl) (one2 rfl rfl) fun w9 hg9 BB9 => ?_
        have k9 := off q7 B9 no_ints2 hg9
        have f9 := (f7 _ _ rfl).mono (show w.heap.size ≤ w1.heap.size from bb.size)
        have bb9 := ((bb.trans (hb2.mono bb.size)).trans ((Below.refl _ _).grown hg9 (Nat.le_trans bb.size hb2.size) (fun g hg => by injection hg with hg; omega)))
        obtain ⟨c0, c1, _, _⟩ := Blk.two BB9
        refine any_done (by kernel_rfl) ?_
        go_wp2
        exact bodyPost_ret (v := .agg #[.bool (ngB (x + y)), .slice A9 (digs 10000 (x + y).natAbs).length c9]) (by simp [results, Tryd.results13, go_sem, c0, c1]) rfl ⟨_, rfl, isR_mk k9 rfl rfl, freshZ_mk f9, bb9⟩
  · by_cases hle : y.natAbs ≤ x.natAbs
    · have HZ : Hid (sg false (x.natAbs - y.natAbs) = x + y) := by show _ = _; have := ngB_false hs0; have := ngB_true hs1; rw [sg_false]; omega
      have HO : Hid ((0 : Int) ≤ ord x.natAbs y.natAbs) := by show (0 : Int) ≤ _; have := ord_neg x.natAbs y.natAbs; have h3 := @ord_le0 y.natAbs x.natAbs; have h4 := @ord_lt0 x.natAbs y.natAbs; omega
      have HLE : Hid (y.natAbs ≤ x.natAbs) := by show _ ≤ _; omega
      clear hle
      go_enter Tryd.func13, Tryd.ntmps13
      go_upto_region 1 with (fail)
      obtain ⟨wx, hwx, bb, B0, B1, B2, hsz⟩ := vars3 w 30 30 30 #[.bool false, .slice A0 (digs 10000 (x).natAbs).length c0] #[.bool true, .slice A1 (digs 10000 (y).natAbs).length c1] #[.bool false, .slice none 0 0]
      rw [hwx]
      clear hwx
      have k0s := s0.below bb
      have k0 : IsR wx (.agg #[.bool false, .slice A0 (digs 10000 (x).natAbs).length c0]) (x) := isR_mk k0s rfl hs0.symm
      have k1s := s1.below bb
      have k1 : IsR wx (.agg #[.bool true, .slice A1 (digs 10000 (y).natAbs).length c1]) (y) := isR_mk k1s rfl hs1.symm
      have hszb := bb.size
      refine flowp 5 [Pd.eq (.pointer (some ⟨w.heap.size, 0, none⟩)), Pd.eq (.bool false), Pd.eq (.pointer (some ⟨w.heap.size + 1, 0, none⟩)), Pd.eq (.bool true), Pd.eq (.bool false)] (by kernel_rfl) ?ob11 ?done11
      case ob11 =>
        refine And.intro (ob_fieldAddr rfl (wt_none rfl) (ev_far rfl rfl) (fun _ => by kernel_rfl) (fun _ => rfl)) ?_
        refine And.intro (ob_load rfl (wt_none rfl) (ev_dep (j := 0) (by kernel_rfl) rfl rfl) (fun w2 hb => run_load1 Tryd.underlying4 rfl ((B0.below hb).cell 0)) (fun _ _ => rfl)) ?_
        refine And.intro (ob_fieldAddr rfl (wt_none rfl) (ev_far rfl rfl) (fun _ => by kernel_rfl) (fun _ => rfl)) ?_
        refine And.intro (ob_load rfl (wt_none rfl) (ev_dep (j := 2) (by kernel_rfl) rfl rfl) (fun w2 hb => run_load1 Tryd.underlying4 rfl ((B1.below hb).cell 0)) (fun _ _ => rfl)) ?_
        refine And.intro (ob_bin rfl (wt_none rfl) (ev_dep (j := 1) (by kernel_rfl) rfl rfl) (ev_dep (j := 3) (by kernel_rfl) rfl rfl) (fun _ _ _ hx hy => ⟨.bool (false == true), by rw [hx, hy]; exact bin_eql_bool _ _ _ _ Tryd.underlying4 _, rfl⟩)) ?_
        trivial
      case done11 =>
        refine fun w1 hb1 v0 h0 v1 h1 v2 h2 v3 h3 v4 h4 b hbf => ?_
        obtain rfl := h0; obtain rfl := h1; obtain rfl := h2; obtain rfl := h3; obtain rfl := h4
        simp only [Act.put, List.setIfInBounds_toArray, List.set_cons_zero, List.set_cons_succ] at hbf
        subst hbf
        replace B0 := B0.below hb1
        replace B1 := B1.below hb1
        replace B2 := B2.below hb1
        replace k0s := k0s.below hb1
        replace k1s := k1s.below hb1
        replace k0 := k0.below hb1
        replace k1 := k1.below hb1
        replace bb := bb.trans (hb1.mono bb.size)
        have hszb := bb.size
        obtain ⟨x00, x01, y00, y01⟩ := Blk.two B0
        obtain ⟨x10, x11, y10, y11⟩ := Blk.two B1
        obtain ⟨x20, x21, y20, y21⟩ := Blk.two B2
        refine ops_done ?_
        go_upto_region 3 with (fail)
        refine flowp 6 [Pd.eq (.pointer (some ⟨w.heap.size, 1, none⟩)), Pd.eq (.slice A0 (digs 10000 (x).natAbs).length c0), Pd.eq (.pointer (some ⟨w.heap.size + 1, 1, none⟩)), Pd.eq (.slice A1 (digs 10000 (y).natAbs).length c1), Pd.eq (.int .i64 (ord x.natAbs y.natAbs)), Pd.eq (.bool true)] (by kernel_rfl) ?ob12 ?done12
        case ob12 =>
          refine And.intro (ob_fieldAddr rfl (wt_none rfl) (ev_far rfl rfl) (fun _ => by kernel_rfl) (fun _ => rfl)) ?_
          refine And.intro (ob_load rfl (wt_none rfl) (ev_dep (j := 0) (by kernel_rfl) rfl rfl) (fun w2 hb => run_load1 Tryd.underlying28 rfl ((B0.below hb).cell 1)) (fun _ _ => rfl)) ?_
          refine And.intro (ob_fieldAddr rfl (wt_none rfl) (ev_far rfl rfl) (fun _ => by kernel_rfl) (fun _ => rfl)) ?_
          refine And.intro (ob_load rfl (wt_none rfl) (ev_dep (j := 2) (by kernel_rfl) rfl rfl) (fun w2 hb => run_load1 Tryd.underlying28 rfl ((B1.below hb).cell 1)) (fun _ _ => rfl)) ?_
          refine And.intro (ob_call2 rfl Tryd.func45 (by kernel_rfl) (wt_none rfl) (ev_dep (j := 1) (by kernel_rfl) rfl rfl) (ev_dep (j := 3) (by kernel_rfl) rfl rfl) (fun w2 u0 u1 hb h0 h1 => by obtain rfl := h0; obtain rfl := h1; exact (refCmp_at _ _ _ _ _ _ (k0s.below hb) (k1s.below hb) rfl).mono fun e w3 h => RetV.pd h)) ?_
          refine And.intro (ob_bin rfl (wt_none rfl) (ev_dep (j := 4) (by kernel_rfl) rfl rfl) (ev_const _) (fun _ _ _ hx hy => ⟨_, by rw [hx, hy]; exact bin_geq_int _ _ _ _ _, congrArg Value.bool (decide_eq_true HO.out)⟩)) ?_
          trivial
        case done12 =>
          refine fun w2 hb2 v0 h0 v1 h1 v2 h2 v3 h3 v4 h4 v5 h5 b hbf => ?_
          obtain rfl := h0; obtain rfl := h1; obtain rfl := h2; obtain rfl := h3; obtain rfl := h4; obtain rfl := h5
          simp only [Act.put, List.setIfInBounds_toArray, List.set_cons_zero, List.set_cons_succ] at hbf
          subst hbf
          replace B0 := B0.below hb2
          replace B1 := B1.below hb2
          replace B2 := B2.below hb2
          replace k0s := k0s.below hb2
          replace k1s := k1s.below hb2
          replace k0 := k0.below hb2
          replace k1 := k1.below hb2
          replace bb := bb.trans (hb2.mono bb.size)
          have hszb := bb.size
          obtain ⟨x00, x01, y00, y01⟩ := Blk.two B0
          obtain ⟨x10, x11, y10, y11⟩ := Blk.two B1
          obtain ⟨x20, x21, y20, y21⟩ := Blk.two B2
          refine ops_done ?_
          go_upto_region 4 with (fail)
          refine flow 8 [Pd.eq (.pointer (some ⟨w.heap.size, 0, none⟩)), Pd.eq (.bool false), Pd.eq (.pointer (some ⟨w.heap.size, 1, none⟩)), Pd.eq (.slice A0 (digs 10000 (x).natAbs).length c0), Pd.eq (.pointer (some ⟨w.heap.size + 1, 1, none⟩)), Pd.eq (.slice A1 (digs 10000 (y).natAbs).length c1), ps .i64 (digs 10000 (x.natAbs - y.natAbs)) w2.heap.size, prf (x + y) w2.heap.size] (by kernel_rfl) (by kernel_rfl) ?ob13 ?done13
          case ob13 =>
            refine And.intro (ob_fieldAddr rfl (wt_none rfl) (ev_far rfl rfl) (fun _ => by kernel_rfl) (fun _ => rfl)) ?_
            refine And.intro (ob_load rfl (wt_none rfl) (ev_dep (j := 0) (by kernel_rfl) rfl rfl) (fun w2 hb => run_load1 Tryd.underlying4 rfl ((B0.drew.below hb).cell 0)) (fun _ _ => rfl)) ?_
            refine And.intro (ob_fieldAddr rfl (wt_none rfl) (ev_far rfl rfl) (fun _ => by kernel_rfl) (fun _ => rfl)) ?_
            refine And.intro (ob_load rfl (wt_none rfl) (ev_dep (j := 2) (by kernel_rfl) rfl rfl) (fun w2 hb => run_load1 Tryd.underlying28 rfl ((B0.drew.below hb).cell 1)) (fun _ _ => rfl)) ?_
            refine And.intro (ob_fieldAddr rfl (wt_none rfl) (ev_far rfl rfl) (fun _ => by kernel_rfl) (fun _ => rfl)) ?_
            refine And.intro (ob_load rfl (wt_none rfl) (ev_dep (j := 4) (by kernel_rfl) rfl rfl) (fun w2 hb => run_load1 Tryd.underlying28 rfl ((B1.drew.below hb).cell 1)) (fun _ _ => rfl)) ?_
            refine And.intro (ob_call2 rfl Tryd.func46 (by kernel_rfl) (wt_none rfl) (ev_dep (j := 3) (by kernel_rfl) rfl rfl) (ev_dep (j := 5) (by kernel_rfl) rfl rfl) (fun w2 u0 u1 hb h0 h1 => by obtain rfl := h0; obtain rfl := h1; exact (refSub_any _ _ _ _ _ (k0s.drew.below hb) (k1s.drew.below hb) HL.out HLE.out _ rfl).mono fun e w3 h => RetS.pd h hb.size)) ?_
            refine And.intro (ob_call2 rfl Tryd.func40 (by kernel_rfl) (wt_none rfl) (ev_dep (j := 1) (by kernel_rfl) rfl rfl) (ev_dep (j := 6) (by kernel_rfl) rfl rfl) (fun w2 u0 u1 hb h0 h1 => by obtain rfl := h0; exact made_pdf _ _ _ (x + y) _ h1.1 h1.2 HZ.out)) ?_
            trivial
          case done13 =>
            refine fun w3 hb3 v0 h0 v1 h1 v2 h2 v3 h3 v4 h4 v5 h5 v6 h6 v7 h7 b hbf => ?_
            obtain rfl := h0; obtain rfl := h1; obtain rfl := h2; obtain rfl := h3; obtain rfl := h4; obtain rfl := h5
            obtain ⟨q6, f6⟩ := h6
            obtain ⟨q7, f7⟩ := h7
            simp only [Act.put, List.setIfInBounds_toArray, List.set_cons_zero, List.set_cons_succ] at hbf
            subst hbf
            obtain ⟨u7, rfl, q7⟩ := q7
            obtain ⟨A9, c9, rfl, _⟩ := id q7
            have B9 := B2.below hb3
            refine any_store (i := 8) (by kernel_rfl) rfl rfl rfl rfl rfl rfl (cells := [.bool (ngB (x + y)), .slice A9 (digs 10000 (x + y).natAbs).length c9]) rfl B9 rfl (by kernel_rfl) (one2 rfl rfl) fun w9 hg9 BB9 => ?_
            have k9 := off q7 B9 no_ints2 hg9
            have f9 := (f7 _ _ rfl).mono (show w.heap.size ≤ w2.heap.size from bb.size)
            have bb9 := ((bb.trans (hb3.mono bb.size)).trans ((Below.refl _ _).grown hg9 (Nat.le_trans bb.size hb3.size) (fun g hg => by injection hg with hg; omega)))
            obtain ⟨c0, c1, _, _⟩ := Blk.two BB9
            refine any_done (by kernel_rfl) ?_
            go_wp2
            exact bodyPost_ret (v := .agg #[.bool (ngB (x + y)), .slice A9 (digs 10000 (x + y).natAbs).length c9]) (by simp [results, Tryd.results13, go_sem, c0, c1]) rfl ⟨_, rfl, isR_mk k9 rfl rfl, freshZ_mk f9, bb9⟩
    · have HZ : Hid (sg true (y.natAbs - x.natAbs) = x + y) := by show _ = _; have := ngB_false hs0; have := ngB_true hs1; rw [sg_true]; omega
      have HO : Hid (¬ (0 : Int) ≤ ord x.natAbs y.natAbs) := by show ¬ _; have := ord_neg x.natAbs y.natAbs; have h3 := @ord_le0 y.natAbs x.natAbs; have h4 := @ord_lt0 x.natAbs y.natAbs; omega
      have HLE : Hid (x.natAbs ≤ y.natAbs) := by show _ ≤ _; omega
      clear hle
      go_enter Tryd.func13, Tryd.ntmps13
      go_upto_region 1 with (fail)
      obtain ⟨wx, hwx, bb, B0, B1, B2, hsz⟩ := vars3 w 30 30 30 #[.bool false, .slice A0 (digs 10000 (x).natAbs).length c0] #[.bool true, .slice A1 (digs 10000 (y).natAbs).length c1] #[.bool false, .slice none 0 0]
      rw [hwx]
      clear hwx
      have k0s := s0.below bb
      have k0 : IsR wx (.agg #[.bool false, .slice A0 (digs 10000 (x).natAbs).length c0]) (x) := isR_mk k0s rfl hs0.symm
      have k1s := s1.below bb
      have k1 : IsR wx (.agg #[.bool true, .slice A1 (digs 10000 (y).natAbs).length c1]) (y) := isR_mk k1s rfl hs1.symm
      have hszb := bb.size
      refine flowp 5 [Pd.eq (.pointer (some ⟨w.heap.size, 0, none⟩)), Pd.eq (.bool false), Pd.eq (.pointer (some ⟨w.heap.size + 1, 0, none⟩)), Pd.eq (.bool true), Pd.eq (.bool false)] (by kernel_rfl) ?ob14 ?done14
      case ob14 =>
        refine And.intro (ob_fieldAddr rfl (wt_none rfl) (ev_far rfl rfl) (fun _ => by kernel_rfl) (fun _ => rfl)) ?_
        refine And.intro (ob_load rfl (wt_none rfl) (ev_dep (j := 0) (by kernel_rfl) rfl rfl) (fun w2 hb => run_load1 Tryd.underlying4 rfl ((B0.below hb).cell 0)) (fun _ _ => rfl)) ?_
        refine And.intro (ob_fieldAddr rfl (wt_none rfl) (ev_far rfl rfl) (fun _ => by kernel_rfl) (fun _ => rfl)) ?_
        refine And.intro (ob_load rfl (wt_none rfl) (ev_dep (j := 2) (by kernel_rfl) rfl rfl) (fun w2 hb => run_load1 Tryd.underlying4 rfl ((B1.below hb).cell 0)) (fun _ _ => rfl)) ?_
        refine And.intro (ob_bin rfl (wt_none rfl) (ev_dep (j := 1) (by kernel_rfl) rfl rfl) (ev_dep (j := 3) (by kernel_rfl) rfl rfl) (fun _ _ _ hx hy => ⟨.bool (false == true), by rw [hx, hy]; exact bin_eql_bool _ _ _ _ Tryd.underlying4 _, rfl⟩)) ?_
        trivial
      case done14 =>
        refine fun w1 hb1 v0 h0 v1 h1 v2 h2 v3 h3 v4 h4 b hbf => ?_
        obtain rfl := h0; obtain rfl := h1; obtain rfl := h2; obtain rfl := h3; obtain rfl := h4
        simp only [Act.put, List.setIfInBounds_toArray, List.set_cons_zero, List.set_cons_succ] at hbf
        subst hbf
        replace B0 := B0.below hb1
        replace B1 := B1.below hb1
        replace B2 := B2.below hb1
        replace k0s := k0s.below hb1
        replace k1s := k1s.below hb1
        replace k0 := k0.below hb1
        replace k1 := k1.below hb1
        replace bb := bb.trans (hb1.mono bb.size)
        have hszb := bb.size
        obtain ⟨x00, x01, y00, y01⟩ := Blk.two B0
        obtain ⟨x10, x11, y10, y11⟩ := Blk.two B1
        obtain ⟨x20, x21, y20, y21⟩ := Blk.two B2
        refine ops_done ?_
        go_upto_region 3 with (fail)
        refine flowp 6 [Pd.eq (.pointer (some ⟨w.heap.size, 1, none⟩)), Pd.eq (.slice A0 (digs 10000 (x).natAbs).length c0), Pd.eq (.pointer (some ⟨w.heap.size + 1, 1, none⟩)), Pd.eq (.slice A1 (digs 10000 (y).natAbs).length c1), Pd.eq (.int .i64 (ord x.natAbs y.natAbs)), Pd.eq (.bool false)] (by kernel_rfl) ?ob15 ?done15
        case ob15 =>
          refine And.intro (ob_fieldAddr rfl (wt_none rfl) (ev_far rfl rfl) (fun _ => by kernel_rfl) (fun _ => rfl)) ?_
          refine And.intro (ob_load rfl (wt_none rfl) (ev_dep (j := 0) (by kernel_rfl) rfl rfl) (fun w2 hb => run_load1 Tryd.underlying28 rfl ((B0.below hb).cell 1)) (fun _ _ => rfl)) ?_
          refine And.intro (ob_fieldAddr rfl (wt_none rfl) (ev_far rfl rfl) (fun _ => by kernel_rfl) (fun _ => rfl)) ?_
          refine And.intro (ob_load rfl (wt_none rfl) (ev_dep (j := 2) (by kernel_rfl) rfl rfl) (fun w2 hb => run_load1 Tryd.underlying28 rfl ((B1.below hb).cell 1)) (fun _ _ => rfl)) ?_
          refine And.intro (ob_call2 rfl Tryd.func45 (by kernel_rfl) (wt_none rfl) (ev_dep (j := 1) (by kernel_rfl) rfl rfl) (ev_dep (j := 3) (by kernel_rfl) rfl rfl) (fun w2 u0 u1 hb h0 h1 => by obtain rfl := h0; obtain rfl := h1; exact (refCmp_at _ _ _ _ _ _ (k0s.below hb) (k1s.below hb) rfl).mono fun e w3 h => RetV.pd h)) ?_
          refine And.intro (ob_bin rfl (wt_none rfl) (ev_dep (j := 4) (by kernel_rfl) rfl rfl) (ev_const _) (fun _ _ _ hx hy => ⟨_, by rw [hx, hy]; exact bin_geq_int _ _ _ _ _, congrArg Value.bool (decide_eq_false HO.out)⟩)) ?_
          trivial
        case done15 =>
          refine fun w2 hb2 v0 h0 v1 h1 v2 h2 v3 h3 v4 h4 v5 h5 b hbf => ?_
          obtain rfl := h0; obtain rfl := h1; obtain rfl := h2; obtain rfl := h3; obtain rfl := h4; obtain rfl := h5
          simp only [Act.put, List.setIfInBounds_toArray, List.set_cons_zero, List.set_cons_succ] at hbf
          subst hbf
          replace B0 := B0.below hb2
          replace B1 := B1.below hb2
          replace B2 := B2.below hb2
          replace k0s := k0s.below hb2
          replace k1s := k1s.below hb2
          replace k0 := k0.below hb2
          replace k1 := k1.below hb2
          replace bb := bb.trans (hb2.mono bb.size)
          have hszb := bb.size
          obtain ⟨x00, x01, y00, y01⟩ := Blk.two B0
          obtain ⟨x10, x11, y10, y11⟩ := Blk.two B1
          obtain ⟨x20, x21, y20, y21⟩ := Blk.two B2
          refine ops_done ?_
          go_upto_region 5 with (fail)
          refine flow 8 [Pd.eq (.pointer (some ⟨w.heap.size + 1, 0, none⟩)), Pd.eq (.bool true), Pd.eq (.pointer (some ⟨w.heap.size + 1, 1, none⟩)), Pd.eq (.slice A1 (digs 10000 (y).natAbs).length c1), Pd.eq (.pointer (some ⟨w.heap.size, 1, none⟩)), Pd.eq (.slice A0 (digs 10000 (x).natAbs).length c0), ps .i64 (digs 10000 (y.natAbs - x.natAbs)) w2.heap.size, prf (x + y) w2.heap.size] (by kernel_rfl) (by kernel_rfl) ?ob16 ?done16
          case ob16 =>
            refine And.intro (ob_fieldAddr rfl (wt_none rfl) (ev_far rfl rfl) (fun _ => by kernel_rfl) (fun _ => rfl)) ?_
            refine And.intro (ob_load rfl (wt_none rfl) (ev_dep (j := 0) (by kernel_rfl) rfl rfl) (fun w2 hb => run_load1 Tryd.underlying4 rfl ((B1.drew.below hb).cell 0)) (fun _ _ => rfl)) ?_
            refine And.intro (ob_fieldAddr rfl (wt_none rfl) (ev_far rfl rfl) (fun _ => by kernel_rfl) (fun _ => rfl)) ?_
            refine And.intro (ob_load rfl (wt_none rfl) (ev_dep (j := 2) (by kernel_rfl) rfl rfl) (fun w2 hb => run_load1 Tryd.underlying28 rfl ((B1.drew.below hb).cell 1)) (fun _ _ => rfl)) ?_
            refine And.intro (ob_fieldAddr rfl (wt_none rfl) (ev_far rfl rfl) (fun _ => by kernel_rfl) (fun _ => rfl)) ?_
            refine And.intro (ob_load rfl (wt_none rfl) (ev_dep (j := 4) (by kernel_rfl) rfl rfl) (fun w2 hb => run_load1 Tryd.underlying28 rfl ((B0.drew.below hb).cell 1)) (fun _ _ => rfl)) ?_
            refine And.intro (ob_call2 rfl Tryd.func46 (by kernel_rfl) (wt_none rfl) (ev_dep (j := 3) (by kernel_rfl) rfl rfl) (ev_dep (j := 5) (by kernel_rfl) rfl rfl) (fun w2 u0 u1 hb h0 h1 => by obtain rfl := h0; obtain rfl := h1; exact (refSub_any _ _ _ _ _ (k1s.drew.below hb) (k0s.drew.below hb) HL2.out HLE.out _ rfl).mono fun e w3 h => RetS.pd h hb.size)) ?_
            refine And.intro (ob_call2 rfl Tryd.func40 (by kernel_rfl) (wt_none rfl) (ev_dep (j := 1) (by kernel_rfl) rfl rfl) (ev_dep (j := 6) (by kernel_rfl) rfl rfl) (fun w2 u0 u1 hb h0 h1 => by obtain rfl := h0; exact made_pdf _ _ _ (x + y) _ h1.1 h1.2 HZ.out)) ?_
            trivial
          case done16 =>
            refine fun w3 hb3 v0 h0 v1 h1 v2 h2 v3 h3 v4 h4 v5 h5 v6 h6 v7 h7 b hbf => ?_
            obtain rfl := h0; obtain rfl := h1; obtain rfl := h2; obtain rfl := h3; obtain rfl := h4; obtain rfl := h5
            obtain ⟨q6, f6⟩ := h6
            obtain ⟨q7, f7⟩ := h7
            simp only [Act.put, List.setIfInBounds_toArray, List.set_cons_zero, List.set_cons_succ] at hbf
            subst hbf
            obtain ⟨u7, rfl, q7⟩ := q7
            obtain ⟨A9, c9, rfl, _⟩ := id q7
            have B9 := B2.below hb3
            refine any_store (i := 8) (by kernel_rfl) rfl rfl rfl rfl rfl rfl (cells := [.bool (ngB (x + y)), .slice A9 (digs 10000 (x + y).natAbs).length c9]) rfl B9 rfl (by kernel_rfl) (one2 rfl rfl) fun w9 hg9 BB9 => ?_
            have k9 := off q7 B9 no_ints2 hg9
            have f9 := (f7 _ _ rfl).mono (show w.heap.size ≤ w2.heap.size from bb.size)
            have bb9 := ((bb.trans (hb3.mono bb.size)).trans ((Below.refl _ _).grown hg9 (Nat.le_trans bb.size hb3.size) (fun g hg => by injection hg with hg; omega)))
            obtain ⟨c0, c1, _, _⟩ := Blk.two BB9
            refine any_done (by kernel_rfl) ?_
            go_wp2
            exact bodyPost_ret (v := .agg #[.bool (ngB (x + y)), .slice A9 (digs 10000 (x + y).natAbs).length c9]) (by simp [results, Tryd.results13, go_sem, c0, c1]) rfl ⟨_, rfl, isR_mk k9 rfl rfl, freshZ_mk f9, bb9⟩
  · by_cases hle : y.natAbs ≤ x.natAbs
    · have HZ : Hid (sg true (x.natAbs - y.natAbs) = x + y) := by show _ = _; have := ngB_true hs0; have := ngB_false hs1; rw [sg_true]; omega
      have HO : Hid ((0 : Int) ≤ ord x.natAbs y.natAbs) := by show (0 : Int) ≤ _; have := ord_neg x.natAbs y.natAbs; have h3 := @ord_le0 y.natAbs x.natAbs; have h4 := @ord_lt0 x.natAbs y.natAbs; omega
      have HLE : Hid (y.natAbs ≤ x.natAbs) := by show _ ≤ _; omega
      clear hle
      go_enter Tryd.func13, Tryd.ntmps13
      go_upto_region 1 with (fail)
      obtain ⟨wx, hwx, bb, B0, B1, B2, hsz⟩ := vars3 w 30 30 30 #[.bool true, .slice A0 (digs 10000 (x).natAbs).length c0] #[.bool false, .slice A1 (digs 10000 (y).natAbs).length c1] #[.bool false, .slice none 0 0]
      rw [hwx]
      clear hwx
      have k0s := s0.below bb
      have k0 : IsR wx (.agg #[.bool true, .slice A0 (digs 10000 (x).natAbs).length c0]) (x) := isR_mk k0s rfl hs0.symm
      have k1s := s1.below bb
      have k1 : IsR wx (.agg #[.bool false, .slice A1 (digs 10000 (y).natAbs).length c1]) (y) := isR_mk k1s rfl hs1.symm
      have hszb := bb.size
      refine flowp 5 [Pd.eq (.pointer (some ⟨w.heap.size, 0, none⟩)), Pd.eq (.bool true), Pd.eq (.pointer (some ⟨w.heap.size + 1, 0, none⟩)), Pd.eq (.bool false), Pd.eq (.bool false)] (by kernel_rfl) ?ob17 ?done17
      case ob17 =>
        refine And.intro (ob_fieldAddr rfl (wt_none rfl) (ev_far rfl rfl) (fun _ => by kernel_rfl) (fun _ => rfl)) ?_
        refine And.intro (ob_load rfl (wt_none rfl) (ev_dep (j := 0) (by kernel_rfl) rfl rfl) (fun w2 hb => run_load1 Tryd.underlying4 rfl ((B0.below hb).cell 0)) (fun _ _ => rfl)) ?_
        refine And.intro (ob_fieldAddr rfl (wt_none rfl) (ev_far rfl rfl) (fun _ => by kernel_rfl) (fun _ => rfl)) ?_
        refine And.intro (ob_load rfl (wt_none rfl) (ev_dep (j := 2) (by kernel_rfl) rfl rfl) (fun w2 hb => run_load1 Tryd.underlying4 rfl ((B1.below hb).cell 0)) (fun _ _ => rfl)) ?_
        refine And.intro (ob_bin rfl (wt_none rfl) (ev_dep (j := 1) (by kernel_rfl) rfl rfl) (ev_dep (j := 3) (by kernel_rfl) rfl rfl) (fun _ _ _ hx hy => ⟨.bool (true == false), by rw [hx, hy]; exact bin_eql_bool _ _ _ _ Tryd.underlying4 _, rfl⟩)) ?_
        trivial
      case done17 =>
        refine fun w1 hb1 v0 h0 v1 h1 v2 h2 v3 h3 v4 h4 b hbf => ?_
        obtain rfl := h0; obtain rfl := h1; obtain rfl := h2; obtain rfl := h3; obtain rfl := h4
        simp only [Act.put, List.setIfInBounds_toArray, List.set_cons_zero, List.set_cons_succ] at hbf
        subst hbf
        replace B0 := B0.below hb1
        replace B1 := B1.below hb1
        replace B2 := B2.below hb1
        replace k0s := k0s.below hb1
        replace k1s := k1s.below hb1
        replace k0 := k0.below hb1
        replace k1 := k1.below hb1
        replace bb := bb.trans (hb1.mono bb.size)
        have hszb := bb.size
        obtain ⟨x00, x01, y00, y01⟩ := Blk.two B0
        obtain ⟨x10, x11, y10, y11⟩ := Blk.two B1
        obtain ⟨x20, x21, y20, y21⟩ := Blk.two B2
        refine ops_done ?_
        go_upto_region 3 with (fail)
        refine flowp 6 [Pd.eq (.pointer (some ⟨w.heap.size, 1, none⟩)), Pd.eq (.slice A0 (digs 10000 (x).natAbs).length c0), Pd.eq (.pointer (some ⟨w.heap.size + 1, 1, none⟩)), Pd.eq (.slice A1 (digs 10000 (y).natAbs).length c1), Pd.eq (.int .i64 (ord x.natAbs y.natAbs)), Pd.eq (.bool true)] (by kernel_rfl) ?ob18 ?done18
        case ob18 =>
          refine And.intro (ob_fieldAddr rfl (wt_none rfl) (ev_far rfl rfl) (fun _ => by kernel_rfl) (fun _ => rfl)) ?_
          refine And.intro (ob_load rfl (wt_none rfl) (ev_dep (j := 0) (by kernel_rfl) rfl rfl) (fun w2 hb => run_load1 Tryd.underlying28 rfl ((B0.below hb).cell 1)) (fun _ _ => rfl)) ?_
          refine And.intro (ob_fieldAddr rfl (wt_none rfl) (ev_far rfl rfl) (fun _ => by kernel_rfl) (fun _ => rfl)) ?_
          refine And.intro (ob_load rfl (wt_none rfl) (ev_dep (j := 2) (by kernel_rfl) rfl rfl) (fun w2 hb => run_load1 Tryd.underlying28 rfl ((B1.below hb).cell 1)) (fun _ _ => rfl)) ?_
          refine And.intro (ob_call2 rfl Tryd.func45 (by kernel_rfl) (wt_none rfl) (ev_dep (j := 1) (by kernel_rfl) rfl rfl) (ev_dep (j := 3) (by kernel_rfl) rfl rfl) (fun w2 u0 u1 hb h0 h1 => by obtain rfl := h0; obtain rfl := h1; exact (refCmp_at _ _ _ _ _ _ (k0s.below hb) (k1s.below hb) rfl).mono fun e w3 h => RetV.pd h)) ?_
          refine And.intro (ob_bin rfl (wt_none rfl) (ev_dep (j := 4) (by kernel_rfl) rfl rfl) (ev_const _) (fun _ _ _ hx hy => ⟨_, by rw [hx, hy]; exact bin_geq_int _ _ _ _ _, congrArg Value.bool (decide_eq_true HO.out)⟩)) ?_
          trivial
        case done18 =>
          refine fun w2 hb2 v0 h0 v1 h1 v2 h2 v3 h3 v4 h4 v5 h5 b hbf => ?_
          obtain rfl := h0; obtain rfl := h1; obtain rfl := h2; obtain rfl := h3; obtain rfl := h4; obtain rfl := h5
          simp only [Act.put, List.setIfInBounds_toArray, List.set_cons_zero, List.set_cons_succ] at hbf
          subst hbf
          replace B0 := B0.below hb2
          replace B1 := B1.below hb2
          replace B2 := B2.below hb2
          replace k0s := k0s.below hb2
          replace k1s := k1s.below hb2
          replace k0 := k0.below hb2
          replace k1 := k1.below hb2
          replace bb := bb.trans (hb2.mono bb.size)
          have hszb := bb.size
          obtain ⟨x00, x01, y00, y01⟩ := Blk.two B0
          obtain ⟨x10, x11, y10, y11⟩ := Blk.two B1
          obtain ⟨x20, x21, y20, y21⟩ := Blk.two B2
          refine ops_done ?_
          go_upto_region 4 with (fail)
          refine flow 8 [Pd.eq (.pointer (some ⟨w.heap.size, 0, none⟩)), Pd.eq (.bool true), Pd.eq (.pointer (some ⟨w.heap.size, 1, none⟩)), Pd.eq (.slice A0 (digs 10000 (x).natAbs).length c0), Pd.eq (.pointer (some ⟨w.heap.size + 1, 1, none⟩)), Pd.eq (.slice A1 (digs 10000 (y).natAbs).length c1), ps .i64 (digs 10000 (x.natAbs - y.natAbs)) w2.heap.size, prf (x + y) w2.heap.size] (by kernel_rfl) (by kernel_rfl) ?ob19 ?done19
          case ob19 =>
            refine And.intro (ob_fieldAddr rfl (wt_none rfl) (ev_far rfl rfl) (fun _ => by kernel_rfl) (fun _ => rfl)) ?_
            refine And.intro (ob_load rfl (wt_none rfl) (ev_dep (j := 0) (by kernel_rfl) rfl rfl) (fun w2 hb => run_load1 Tryd.underlying4 rfl ((B0.drew.below hb).cell 0)) (fun _ _ => rfl)) ?_
            refine And.intro (ob_fieldAddr rfl (wt_none rfl) (ev_far rfl rfl) (fun _ => by kernel_rfl) (fun _ => rfl)) ?_
            refine And.intro (ob_load rfl (wt_none rfl) (ev_dep (j := 2) (by kernel_rfl) rfl rfl) (fun w2 hb => run_load1 Tryd.underlying28 rfl ((B0.drew.below hb).cell 1)) (fun _ _ => rfl)) ?_
            refine And.intro (ob_fieldAddr rfl (wt_none rfl) (ev_far rfl rfl) (fun _ => by kernel_rfl) (fun _ => rfl)) ?_
            refine And.intro (ob_load rfl (wt_none rfl) (ev_dep (j := 4) (by kernel_rfl) rfl rfl) (fun w2 hb => run_load1 Tryd.underlying28 rfl ((B1.drew.below hb).cell 1)) (fun _ _ => rfl)) ?_
            refine And.intro (ob_call2 rfl Tryd.func46 (by kernel_rfl) (wt_none rfl) (ev_dep (j := 3) (by kernel_rfl) rfl rfl) (ev_dep (j := 5) (by kernel_rfl) rfl rfl) (fun w2 u0 u1 hb h0 h1 => by obtain rfl := h0; obtain rfl := h1; exact (refSub_any _ _ _ _ _ (k0s.drew.below hb) (k1s.drew.below hb) HL.out HLE.out _ rfl).mono fun e w3 h => RetS.pd h hb.size)) ?_
            refine And.intro (ob_call2 rfl Tryd.func40 (by kernel_rfl) (wt_none rfl) (ev_dep (j := 1) (by kernel_rfl) rfl rfl) (ev_dep (j := 6) (by kernel_rfl) rfl rfl) (fun w2 u0 u1 hb h0 h1 => by obtain rfl := h0; exact made_pdf _ _ _ (x + y) _ h1.1 h1.2 HZ.out)) ?_
            trivial
          case done19 =>
            refine fun w3 hb3 v0 h0 v1 h1 v2 h2 v3 h3 v4 h4 v5 h5 v6 h6 v7 h7 b hbf => ?_
            obtain rfl := h0; obtain rfl := h1; obtain rfl := h2; obtain rfl := h3; obtain rfl := h4; obtain rfl := h5
            obtain ⟨q6, f6⟩ := h6
            obtain ⟨q7, f7⟩ := h7
            simp only [Act.put, List.setIfInBounds_toArray, List.set_cons_zero, List.set_cons_succ] at hbf
            subst hbf
            obtain ⟨u7, rfl, q7⟩ := q7
            obtain ⟨A9, c9, rfl, _⟩ := id q7
            have B9 := B2.below hb3
            refine any_store (i := 8) (by kernel_rfl) rfl rfl rfl rfl rfl rfl (cells := [.bool (ngB (x + y)), .slice A9 (digs 10000 (x + y).natAbs).length c9]) rfl B9 rfl (by kernel_rfl) (one2 rfl rfl) fun w9 hg9 BB9 => ?_
            have k9 := off q7 B9 no_ints2 hg9
            have f9 := (f7 _ _ rfl).mono (show w.heap.size ≤ w2.heap.size from bb.size)
            have bb9 := ((bb.trans (hb3.mono bb.size)).trans ((Below.refl _ _).grown hg9 (Nat.le_trans bb.size hb3.size) (fun g hg => by injection hg with hg; omega)))
            obtain ⟨c0, c1, _, _⟩ := Blk.two BB9
            refine any_done (by kernel_rfl) ?_
            go_wp2
            exact bodyPost_ret (v := .agg #[.bool (ngB (x + y)), .slice A9 (digs 10000 (x + y).natAbs).length c9]) (by simp [results, Tryd.results13, go_sem, c0, c1]) rfl ⟨_, rfl, isR_mk k9 rfl rfl, freshZ_mk f9, bb9⟩
    · have HZ : Hid (sg false (y.natAbs - x.natAbs) = x + y) := by show _ = _; have := ngB_true hs0; have := ngB_false hs1; rw [sg_false]; omega
      have HO : Hid (¬ (0 : Int) ≤ ord x.natAbs y.natAbs) := by show ¬ _; have := ord_neg x.natAbs y.natAbs; have h3 := @ord_le0 y.natAbs x.natAbs; have h4 := @ord_lt0 x.natAbs y.natAbs; omega
      have HLE : Hid (x.natAbs ≤ y.natAbs) := by show _ ≤ _; omega
      clear hle
      go_enter Tryd.func13, Tryd.ntmps13
      go_upto_region 1 with (fail)
      obtain ⟨wx, hwx, bb, B0, B1, B2, hsz⟩ := vars3 w 30 30 30 #[.bool true, .slice A0 (digs 10000 (x).natAbs).length c0] #[.bool false, .slice A1 (digs 10000 (y).natAbs).length c1] #[.bool false, .slice none 0 0]
      rw [hwx]
      clear hwx
      have k0s := s0.below bb
      have k0 : IsR wx (.agg #[.bool true, .slice A0 (digs 10000 (x).natAbs).length c0]) (x) := isR_mk k0s rfl hs0.symm
      have k1s := s1.below bb
      have k1 : IsR wx (.agg #[.bool false, .slice A1 (digs 10000 (y).natAbs).length c1]) (y) := isR_mk k1s rfl hs1.symm
      have hszb := bb.size
      refine flowp 5 [Pd.eq (.pointer (some ⟨w.heap.size, 0, none⟩)), Pd.eq (.bool true), Pd.eq (.pointer (some ⟨w.heap.size + 1, 0, none⟩)), Pd.eq (.bool false), Pd.eq (.bool false)] (by kernel_rfl) ?ob20 ?done20
      case ob20 =>
        refine And.intro (ob_fieldAddr rfl (wt_none rfl) (ev_far rfl rfl) (fun _ => by kernel_rfl) (fun _ => rfl)) ?_
        refine And.intro (ob_load rfl (wt_none rfl) (ev_dep (j := 0) (by kernel_rfl) rfl rfl) (fun w2 hb => run_load1 Tryd.underlying4 rfl ((B0.below hb).cell 0)) (fun _ _ => rfl)) ?_
        refine And.intro (ob_fieldAddr rfl (wt_none rfl) (ev_far rfl rfl) (fun _ => by kernel_rfl) (fun _ => rfl)) ?_
        refine And.intro (ob_load rfl (wt_none rfl) (ev_dep (j := 2) (by kernel_rfl) rfl rfl) (fun w2 hb => run_load1 Tryd.underlying4 rfl ((B1.below hb).cell 0)) (fun _ _ => rfl)) ?_
        refine And.intro (ob_bin rfl (wt_none rfl) (ev_dep (j := 1) (by kernel_rfl) rfl rfl) (ev_dep (j := 3) (by kernel_rfl) rfl rfl) (fun _ _ _ hx hy => ⟨.bool (true == false), by rw [hx, hy]; exact bin_eql_bool _ _ _ _ Tryd.underlying4 _, rfl⟩)) ?_
        trivial
      case done20 =>
        refine fun w1 hb1 v0 h0 v1 h1 v2 h2 v3 h3 v4 h4 b hbf => ?_
        obtain rfl := h0; obtain rfl := h1; obtain rfl := h2; obtain rfl := h3; obtain rfl := h4
        simp only [Act.put, List.setIfInBounds_toArray, List.set_cons_zero, List.set_cons_succ] at hbf
        subst hbf
        replace B0 := B0.below hb1
        replace B1 := B1.below hb1
        replace B2 := B2.below hb1
        replace k0s := k0s.below hb1
        replace k1s := k1s.below hb1
        replace k0 := k0.below hb1
        replace k1 := k1.below hb1
        replace bb := bb.trans (hb1.mono bb.size)
        have hszb := bb.size
        obtain ⟨x00, x01, y00, y01⟩ := Blk.two B0
        obtain ⟨x10, x11, y10, y11⟩ := Blk.two B1
        obtain ⟨x20, x21, y20, y21⟩ := Blk.two B2
        refine ops_done ?_
        go_upto_region 3 with (fail)
        refine flowp 6 [Pd.eq (.pointer (some ⟨w.heap.size, 1, none⟩)), Pd.eq (.slice A0 (digs 10000 (x).natAbs).length c0), Pd.eq (.pointer (some ⟨w.heap.size + 1, 1, none⟩)), Pd.eq (.slice A1 (digs 10000 (y).natAbs).length c1), Pd.eq (.int .i64 (ord x.natAbs y.natAbs)), Pd.eq (.bool false)] (by kernel_rfl) ?ob21 ?done21
        case ob21 =>
          refine And.intro (ob_fieldAddr rfl (wt_none rfl) (ev_far rfl rfl) (fun _ => by kernel_rfl) (fun _ => rfl)) ?_
          refine And.intro (ob_load rfl (wt_none rfl) (ev_dep (j := 0) (by kernel_rfl) rfl rfl) (fun w2 hb => run_load1 Tryd.underlying28 rfl ((B0.below hb).cell 1)) (fun _ _ => rfl)) ?_
          refine And.intro (ob_fieldAddr rfl (wt_none rfl) (ev_far rfl rfl) (fun _ => by kernel_rfl) (fun _ => rfl)) ?_
          refine And.intro (ob_load rfl (wt_none rfl) (ev_dep (j := 2) (by kernel_rfl) rfl rfl) (fun w2 hb => run_load1 Tryd.underlying28 rfl ((B1.below hb).cell 1)) (fun _ _ => rfl)) ?_
          refine And.intro (ob_call2 rfl Tryd.func45 (by kernel_rfl) (wt_none rfl) (ev_dep (j := 1) (by kernel_rfl) rfl rfl) (ev_dep (j := 3) (by kernel_rfl) rfl rfl) (fun w2 u0 u1 hb h0 h1 => by obtain rfl := h0; obtain rfl := h1; exact (refCmp_at _ _ _ _ _ _ (k0s.below hb) (k1s.below hb) rfl).mono fun e w3 h => RetV.pd h)) ?_
          refine And.intro (ob_bin rfl (wt_none rfl) (ev_dep (j := 4) (by kernel_rfl) rfl rfl) (ev_const _) (fun _ _ _ hx hy => ⟨_, by rw [hx, hy]; exact bin_geq_int _ _ _ _ _, congrArg Value.bool (decide_eq_false HO.out)⟩)) ?_
          trivial
        case done21 =>
          refine fun w2 hb2 v0 h0 v1 h1 v2 h2 v3 h3 v4 h4 v5 h5 b hbf => ?_
          obtain rfl := h0; obtain rfl := h1; obtain rfl := h2; obtain rfl := h3; obtain rfl := h4; obtain rfl := h5
          simp only [Act.put, List.setIfInBounds_toArray, List.set_cons_zero, List.set_cons_succ] at hbf
          subst hbf
          replace B0 := B0.below hb2
          replace B1 := B1.below hb2
          replace B2 := B2.below hb2
          replace k0s := k0s.below hb2
          replace k1s := k1s.below hb2
          replace k0 := k0.below hb2
          replace k1 := k1.below hb2
          replace bb := bb.trans (hb2.mono bb.size)
          have hszb := bb.size
          obtain ⟨x00, x01, y00, y01⟩ := Blk.two B0
          obtain ⟨x10, x11, y10, y11⟩ := Blk.two B1
          obtain ⟨x20, x21, y20, y21⟩ := Blk.two B2
          refine ops_done ?_
          go_upto_region 5 with (fail)
          refine flow 8 [Pd.eq (.pointer (some ⟨w.heap.size + 1, 0, none⟩)), Pd.eq (.bool false), Pd.eq (.pointer (some ⟨w.heap.size + 1, 1, none⟩)), Pd.eq (.slice A1 (digs 10000 (y).natAbs).length c1), Pd.eq (.pointer (some ⟨w.heap.size, 1, none⟩)), Pd.eq (.slice A0 (digs 10000 (x).natAbs).length c0), ps .i64 (digs 10000 (y.natAbs - x.natAbs)) w2.heap.size, prf (x + y) w2.heap.size] (by kernel_rfl) (by kernel_rfl) ?ob22 ?done22
          case ob22 =>
            refine And.intro (ob_fieldAddr rfl (wt_none rfl) (ev_far rfl rfl) (fun _ => by kernel_rfl) (fun _ => rfl)) ?_
            refine And.intro (ob_load rfl (wt_none rfl) (ev_dep (j := 0) (by kernel_rfl) rfl rfl) (fun w2 hb => run_load1 Tryd.underlying4 rfl ((B1.drew.below hb).cell 0)) (fun _ _ => rfl)) ?_
            refine And.intro (ob_fieldAddr rfl (wt_none rfl) (ev_far rfl rfl) (fun _ => by kernel_rfl) (fun _ => rfl)) ?_
            refine And.intro (ob_load rfl (wt_none rfl) (ev_dep (j := 2) (by kernel_rfl) rfl rfl) (fun w2 hb => run_load1 Tryd.underlying28 rfl ((B1.drew.below hb).cell 1)) (fun _ _ => rfl)) ?_
            refine And.intro (ob_fieldAddr rfl (wt_none rfl) (ev_far rfl rfl) (fun _ => by kernel_rfl) (fun _ => rfl)) ?_
            refine And.intro (ob_load rfl (wt_none rfl) (ev_dep (j := 4) (by kernel_rfl) rfl rfl) (fun w2 hb => run_load1 Tryd.underlying28 rfl ((B0.drew.below hb).cell 1)) (fun _ _ => rfl)) ?_
            refine And.intro (ob_call2 rfl Tryd.func46 (by kernel_rfl) (wt_none rfl) (ev_dep (j := 3) (by kernel_rfl) rfl rfl) (ev_dep (j := 5) (by kernel_rfl) rfl rfl) (fun w2 u0 u1 hb h0 h1 => by obtain rfl := h0; obtain rfl := h1; exact (refSub_any _ _ _ _ _ (k1s.drew.below hb) (k0s.drew.below hb) HL2.out HLE.out _ rfl).mono fun e w3 h => RetS.pd h hb.size)) ?_
            refine And.intro (ob_call2 rfl Tryd.func40 (by kernel_rfl) (wt_none rfl) (ev_dep (j := 1) (by kernel_rfl) rfl rfl) (ev_dep (j := 6) (by kernel_rfl) rfl rfl) (fun w2 u0 u1 hb h0 h1 => by obtain rfl := h0; exact made_pdf _ _ _ (x + y) _ h1.1 h1.2 HZ.out)) ?_
            trivial
          case done22 =>
            refine fun w3 hb3 v0 h0 v1 h1 v2 h2 v3 h3 v4 h4 v5 h5 v6 h6 v7 h7 b hbf => ?_
            obtain rfl := h0; obtain rfl := h1; obtain rfl := h2; obtain rfl := h3; obtain rfl := h4; obtain rfl := h5
            obtain ⟨q6, f6⟩ := h6
            obtain ⟨q7, f7⟩ := h7
            simp only [Act.put, List.setIfInBounds_toArray, List.set_cons_zero, List.set_cons_succ] at hbf
            subst hbf
            obtain ⟨u7, rfl, q7⟩ := q7
            obtain ⟨A9, c9, rfl, _⟩ := id q7
            have B9 := B2.below hb3
            refine any_store (i := 8) (by kernel_rfl) rfl rfl rfl rfl rfl rfl (cells := [.bool (ngB (x + y)), .slice A9 (digs 10000 (x + y).natAbs).length c9]) rfl B9 rfl (by kernel_rfl) (one2 rfl rfl) fun w9 hg9 BB9 => ?_
            have k9 := off q7 B9 no_ints2 hg9
            have f9 := (f7 _ _ rfl).mono (show w.heap.size ≤ w2.heap.size from bb.size)
            have bb9 := ((bb.trans (hb3.mono bb.size)).trans ((Below.refl _ _).grown hg9 (Nat.le_trans bb.size hb3.size) (fun g hg => by injection hg with hg; omega)))
            obtain ⟨c0, c1, _, _⟩ := Blk.two BB9
            refine any_done (by kernel_rfl) ?_
            go_wp2
            exact bodyPost_ret (v := .agg #[.bool (ngB (x + y)), .slice A9 (digs 10000 (x + y).natAbs).length c9]) (by simp [results, Tryd.results13, go_sem, c0, c1]) rfl ⟨_, rfl, isR_mk k9 rfl rfl, freshZ_mk f9, bb9⟩
  · have HZ : Hid (sg true (x.natAbs + y.natAbs) = x + y) := by show _ = _; have := ngB_true hs0; have := ngB_true hs1; rw [sg_true]; omega
    go_enter Tryd.func13, Tryd.ntmps13
    go_upto_region 1 with (fail)
    obtain ⟨wx, hwx, bb, B0, B1, B2, hsz⟩ := vars3 w 30 30 30 #[.bool true, .slice A0 (digs 10000 (x).natAbs).length c0] #[.bool true, .slice A1 (digs 10000 (y).natAbs).length c1] #[.bool false, .slice none 0 0]
    rw [hwx]
    clear hwx
    have k0s := s0.below bb
    have k0 : IsR wx (.agg #[.bool true, .slice A0 (digs 10000 (x).natAbs).length c0]) (x) := isR_mk k0s rfl hs0.symm
    have k1s := s1.below bb
    have k1 : IsR wx (.agg #[.bool true, .slice A1 (digs 10000 (y).natAbs).length c1]) (y) := isR_mk k1s rfl hs1.symm
    have hszb := bb.size
    refine flowp 5 [Pd.eq (.pointer (some ⟨w.heap.size, 0, none⟩)), Pd.eq (.bool true), Pd.eq (.pointer (some ⟨w.heap.size + 1, 0, none⟩)), Pd.eq (.bool true), Pd.eq (.bool true)] (by kernel_rfl) ?ob23 ?done23
    case ob23 =>
      refine And.intro (ob_fieldAddr rfl (wt_none rfl) (ev_far rfl rfl) (fun _ => by kernel_rfl) (fun _ => rfl)) ?_
      refine And.intro (ob_load rfl (wt_none rfl) (ev_dep (j := 0) (by kernel_rfl) rfl rfl) (fun w2 hb => run_load1 Tryd.underlying4 rfl ((B0.below hb).cell 0)) (fun _ _ => rfl)) ?_
      refine And.intro (ob_fieldAddr rfl (wt_none rfl) (ev_far rfl rfl) (fun _ => by kernel_rfl) (fun _ => rfl)) ?_
      refine And.intro (ob_load rfl (wt_none rfl) (ev_dep (j := 2) (by kernel_rfl) rfl rfl) (fun w2 hb => run_load1 Tryd.underlying4 rfl ((B1.below hb).cell 0)) (fun _ _ => rfl)) ?_
      refine And.intro (ob_bin rfl (wt_none rfl) (ev_dep (j := 1) (by kernel_rfl) rfl rfl) (ev_dep (j := 3) (by kernel_rfl) rfl rfl) (fun _ _ _ hx hy => ⟨.bool (true == true), by rw [hx, hy]; exact bin_eql_bool _ _ _ _ Tryd.underlying4 _, rfl⟩)) ?_
      trivial
    case done23 =>
      refine fun w1 hb1 v0 h0 v1 h1 v2 h2 v3 h3 v4 h4 b hbf => ?_
      obtain rfl := h0; obtain rfl := h1; obtain rfl := h2; obtain rfl := h3; obtain rfl := h4
      simp only [Act.put, List.setIfInBounds_toArray, List.set_cons_zero, List.set_cons_succ] at hbf
      subst hbf
      replace B0 := B0.below hb1
      replace B1 := B1.below hb1
      replace B2 := B2.below hb1
      replace k0s := k0s.below hb1
      replace k1s := k1s.below hb1
      replace k0 := k0.below hb1
      replace k1 := k1.below hb1
      replace bb := bb.trans (hb1.mono bb.size)
      have hszb := bb.size
      obtain ⟨x00, x01, y00, y01⟩ := Blk.two B0
      obtain ⟨x10, x11, y10, y11⟩ := Blk.two B1
      obtain ⟨x20, x21, y20, y21⟩ := Blk.two B2
      refine ops_done ?_
      go_upto_region 2 with (fail)
      refine flow 8 [Pd.eq (.pointer (some ⟨w.heap.size, 0, none⟩)), Pd.eq (.bool true), Pd.eq (.pointer (some ⟨w.heap.size, 1, none⟩)), Pd.eq (.slice A0 (digs 10000 (x).natAbs).length c0), Pd.eq (.pointer (some ⟨w.heap.size + 1, 1, none⟩)), Pd.eq (.slice A1 (digs 10000 (y).natAbs).length c1), ps .i64 (digs 10000 (x.natAbs + y.natAbs)) w1.heap.size, prf (x + y) w1.heap.size] (by kernel_rfl) (by kernel_rfl) ?ob24 ?done24
      case ob24 =>
        refine And.intro (ob_fieldAddr rfl (wt_none rfl) (ev_far rfl rfl) (fun _ => by kernel_rfl) (fun _ => rfl)) ?_
        refine And.intro (ob_load rfl (wt_none rfl) (ev_dep (j := 0) (by kernel_rfl) rfl rfl) (fun w2 hb => run_load1 Tryd.underlying4 rfl ((B0.drew.below hb).cell 0)) (fun _ _ => rfl)) ?_
        refine And.intro (ob_fieldAddr rfl (wt_none rfl) (ev_far rfl rfl) (fun _ => by kernel_rfl) (fun _ => rfl)) ?_
        refine And.intro (ob_load rfl (wt_none rfl) (ev_dep (j := 2) (by kernel_rfl) rfl rfl) (fun w2 hb => run_load1 Tryd.underlying28 rfl ((B0.drew.below hb).cell 1)) (fun _ _ => rfl)) ?_
        refine And.intro (ob_fieldAddr rfl (wt_none rfl) (ev_far rfl rfl) (fun _ => by kernel_rfl) (fun _ => rfl)) ?_
        refine And.intro (ob_load rfl (wt_none rfl) (ev_dep (j := 4) (by kernel_rfl) rfl rfl) (fun w2 hb => run_load1 Tryd.underlying28 rfl ((B1.drew.below hb).cell 1)) (fun _ _ => rfl)) ?_
        refine And.intro (ob_call2 rfl Tryd.func27 (by kernel_rfl) (wt_none rfl) (ev_dep (j := 3) (by kernel_rfl) rfl rfl) (ev_dep (j := 5) (by kernel_rfl) rfl rfl) (fun w2 u0 u1 hb h0 h1 => by obtain rfl := h0; obtain rfl := h1; exact (refAdd_any _ _ _ _ _ (k0s.drew.below hb) (k1s.drew.below hb) HL.out HL2.out).mono fun e w3 h => RetS.pd h hb.size)) ?_
        refine And.intro (ob_call2 rfl Tryd.func40 (by kernel_rfl) (wt_none rfl) (ev_dep (j := 1) (by kernel_rfl) rfl rfl) (ev_dep (j := 6) (by kernel_rfl) rfl rfl) (fun w2 u0 u1 hb h0 h1 => by obtain rfl := h0; exact made_pdf _ _ _ (x + y) _ h1.1 h1.2 HZ.out)) ?_
        trivial
      case done24 =>
        refine fun w2 hb2 v0 h0 v1 h1 v2 h2 v3 h3 v4 h4 v5 h5 v6 h6 v7 h7 b hbf => ?_
        obtain rfl := h0; obtain rfl := h1; obtain rfl := h2; obtain rfl := h3; obtain rfl := h4; obtain rfl := h5
        obtain ⟨q6, f6⟩ := h6
        obtain ⟨q7, f7⟩ := h7
        simp only [Act.put, List.setIfInBounds_toArray, List.set_cons_zero, List.set_cons_succ] at hbf
        subst hbf
        obtain ⟨u7, rfl, q7⟩ := q7
        obtain ⟨A9, c9, rfl, _⟩ := id q7
        have B9 := B2.below hb2
        refine any_store (i := 8) (by kernel_rfl) rfl rfl rfl rfl rfl rfl (cells := [.bool (ngB (x + y)), .slice A9 (digs 10000 (x + y).natAbs).length c9]) rfl B9 rfl (by kernel_rfl) (one2 rfl rfl) fun w9 hg9 BB9 => ?_
        have k9 := off q7 B9 no_ints2 hg9
        have f9 := (f7 _ _ rfl).mono (show w.heap.size ≤ w1.heap.size from bb.size)
        have bb9 := ((bb.trans (hb2.mono bb.size)).trans ((Below.refl _ _).grown hg9 (Nat.le_trans bb.size hb2.size) (fun g hg => by injection hg with hg; omega)))
        obtain ⟨c0, c1, _, _⟩ := Blk.two BB9
        refine any_done (by kernel_rfl) ?_
        go_wp2
        exact bodyPost_ret (v := .agg #[.bool (ngB (x + y)), .slice A9 (digs 10000 (x + y).natAbs).length c9]) (by simp [results, Tryd.results13, go_sem, c0, c1]) rfl ⟨_, rfl, isR_mk k9 rfl rfl, freshZ_mk f9, bb9⟩
end Go.Proofs.YtcmjbkgcknimlaaDoor.whl
