/- Package whole and the document's whole numbers: the calls. Condition: as each says. -/
import Derived.Test.YtcmjbkgcknimlaaDoorWhlF
namespace Go.Proofs.YtcmjbkgcknimlaaDoor.whl
open Go.RowKit Go.Proofs.YtcmjbkgcknimlaaDoor.num Go.Proofs.YtcmjbkgcknimlaaDoor.mem Go.Proofs.YtcmjbkgcknimlaaDoor.nat Go.Proofs.YtcmjbkgcknimlaaDoor.txt Go.Proofs.YtcmjbkgcknimlaaDoor.str Go.Proofs.YtcmjbkgcknimlaaDoor.flow
set_option linter.unusedVariables false
set_option maxHeartbeats 1600000 in
set_option maxRecDepth 100000 in
theorem zfloor_zero (a0 : Value) (x : Int) (a1 : Value) (y : Int) (w : World) (h0 : IsZ w a0 x) (h1 : IsZ w a1 y) (hy : y = 0) :
    Calls Tryd.prog 33 #[a0, a1] w (RetZZE 0 0 3 w) := by
  obtain ⟨u0, rfl, s0⟩ := h0
  obtain ⟨A0, c0, rfl, _⟩ := id s0
  obtain ⟨u1, rfl, s1⟩ := h1
  obtain ⟨A1, c1, rfl, _⟩ := id s1
  have HD : Hid (digs 4294967296 y.natAbs = digs 4294967296 0) := by show _ = _; rw [hy]; rfl
  clear hy
  go_enter Tryd.func33, Tryd.ntmps33
  go_upto_region 1 with (fail)
  obtain ⟨wx, hwx, bb, B0, B1, B2, B3, hsz⟩ := vars4 w 25 25 25 25 #[.bool (ngB x), .slice A0 (digs 4294967296 (x).natAbs).length c0] #[.bool (ngB y), .slice A1 (digs 4294967296 (y).natAbs).length c1] #[.bool false, .slice none 0 0] #[.bool false, .slice none 0 0]
  rw [hwx]
  clear hwx
  have k0s := s0.below bb
  have k0 : IsZ wx (.agg #[.bool (ngB x), .slice A0 (digs 4294967296 (x).natAbs).length c0]) (x) := isZ_mk k0s rfl rfl
  have k1s := s1.below bb
  have k1 : IsZ wx (.agg #[.bool (ngB y), .slice A1 (digs 4294967296 (y).natAbs).length c1]) (y) := isZ_mk k1s rfl rfl
  have hszb := bb.size
  refine flowp 12 [Pd.eq (.pointer (some ⟨w.heap.size, 1, none⟩)), Pd.eq (.slice A0 (digs 4294967296 (x).natAbs).length c0), Pd.eq (.pointer (some ⟨w.heap.size + 1, 1, none⟩)), Pd.eq (.slice A1 (digs 4294967296 (y).natAbs).length c1), pt3 .u64 ([]) ([]) 3 wx.heap.size, pt3 .u64 ([]) ([]) 3 wx.heap.size, ps .u64 ([]) wx.heap.size, ps .u64 ([]) wx.heap.size, Pd.eq (.int .i64 3), ps .u64 ([]) wx.heap.size, ps .u64 ([]) wx.heap.size, Pd.eq (.int .i64 3)] (by kernel_rfl) ?ob5 ?done5
  case ob5 =>
    refine And.intro (ob_fieldAddr rfl (wt_none rfl) (ev_far rfl rfl) (fun _ => by kernel_rfl) (fun _ => rfl)) ?_
    refine And.intro (ob_load rfl (wt_none rfl) (ev_dep (j := 0) (by kernel_rfl) rfl rfl) (fun w2 hb => run_load1 Tryd.underlying23 rfl ((B0.below hb).cell 1)) (fun _ _ => rfl)) ?_
    refine And.intro (ob_fieldAddr rfl (wt_none rfl) (ev_far rfl rfl) (fun _ => by kernel_rfl) (fun _ => rfl)) ?_
    refine And.intro (ob_load rfl (wt_none rfl) (ev_dep (j := 2) (by kernel_rfl) rfl rfl) (fun w2 hb => run_load1 Tryd.underlying23 rfl ((B1.below hb).cell 1)) (fun _ _ => rfl)) ?_
    refine And.intro (ob_call2 rfl Tryd.func57 (by kernel_rfl) (wt_none rfl) (ev_dep (j := 1) (by kernel_rfl) rfl rfl) (ev_dep (j := 3) (by kernel_rfl) rfl rfl) (fun w2 u0 u1 hb h0 h1 => by obtain rfl := h0; obtain rfl := h1; exact (ddiv_zero _ _ _ (whl.IsS.cast (k1s.below hb) HD.out)).mono fun e w3 h => RetSSE.pd h hb.size)) ?_
    refine And.intro (ob_move rfl (wt_none rfl) (ev_dep (j := 4) (by kernel_rfl) rfl rfl) (fun _ _ h => h)) ?_
    refine And.intro (ob_extract rfl (wt_none rfl) (ev_dep (j := 5) (by kernel_rfl) rfl rfl) (fun w2 u hu => by obtain ⟨v, u, rfl, q1, q2, q3, q4⟩ := hu; exact ⟨v, rfl, q1, q3⟩)) ?_
    refine And.intro (ob_extract rfl (wt_none rfl) (ev_dep (j := 5) (by kernel_rfl) rfl rfl) (fun w2 u hu => by obtain ⟨v, u, rfl, q1, q2, q3, q4⟩ := hu; exact ⟨u, rfl, q2, q4⟩)) ?_
    refine And.intro (ob_extract rfl (wt_none rfl) (ev_dep (j := 5) (by kernel_rfl) rfl rfl) (fun w2 u hu => by obtain ⟨v, u, rfl, q1, q2, q3, q4⟩ := hu; exact ⟨_, rfl, rfl⟩)) ?_
    refine And.intro (ob_assign rfl (wt_none rfl) (ev_dep (j := 6) (by kernel_rfl) rfl rfl) (fun _ _ h => h)) ?_
    refine And.intro (ob_assign rfl (wt_none rfl) (ev_dep (j := 7) (by kernel_rfl) rfl rfl) (fun _ _ h => h)) ?_
    refine And.intro (ob_assign rfl (wt_none rfl) (ev_dep (j := 8) (by kernel_rfl) rfl rfl) (fun _ _ h => h)) ?_
    trivial
  case done5 =>
    refine fun w1 hb1 v0 h0 v1 h1 v2 h2 v3 h3 v4 h4 v5 h5 v6 h6 v7 h7 v8 h8 v9 h9 v10 h10 v11 h11 b hbf => ?_
    obtain rfl := h0; obtain rfl := h1; obtain rfl := h2; obtain rfl := h3; obtain rfl := h8; obtain rfl := h11
    clear h4
    clear h5
    obtain ⟨q6, f6⟩ := h6
    obtain ⟨q7, f7⟩ := h7
    obtain ⟨q9, f9⟩ := h9
    obtain ⟨q10, f10⟩ := h10
    simp only [Act.put, List.setIfInBounds_toArray, List.set_cons_zero, List.set_cons_succ] at hbf
    subst hbf
    obtain ⟨A6, c6, rfl, _⟩ := id q9
    obtain ⟨A7, c7, rfl, _⟩ := id q10
    replace B0 := B0.below hb1
    replace B1 := B1.below hb1
    replace B2 := B2.below hb1
    replace B3 := B3.below hb1
    replace k0s := k0s.below hb1
    replace k1s := k1s.below hb1
    replace k0 := k0.below hb1
    replace k1 := k1.below hb1
    replace bb := bb.trans (hb1.mono bb.size)
    have hszb := bb.size
    obtain ⟨x00, x01, y00, y01⟩ := Blk.two B0
    obtain ⟨x10, x11, y10, y11⟩ := Blk.two B1
    obtain ⟨x20, x21, y20, y21⟩ := Blk.two B2
    obtain ⟨x30, x31, y30, y31⟩ := Blk.two B3
    refine ops_done ?_
    go_wp2
    exact bodyPost_ret (v := .tuple #[.agg #[.bool false, .slice none 0 0], .agg #[.bool false, .slice none 0 0], .int .i64 3]) (by simp [results, Tryd.results33, go_sem, x20, x21, x30, x31]) rfl ⟨_, _, rfl, zero_isZ _, zero_isZ _, zero_fresh _, zero_fresh _, ((((bb.setCell (show w.heap.size ≤ w.heap.size + 1 + 1 by omega) _).setCell (show w.heap.size ≤ w.heap.size + 1 + 1 by omega) _).setCell (show w.heap.size ≤ w.heap.size + 1 + 1 + 1 by omega) _).setCell (show w.heap.size ≤ w.heap.size + 1 + 1 + 1 by omega) _)⟩

set_option maxHeartbeats 6400000 in
set_option maxRecDepth 100000 in
theorem zfloor_any (a0 : Value) (x : Int) (a1 : Value) (y : Int) (w : World) (h0 : IsZ w a0 x) (h1 : IsZ w a1 y) (hl : lenZ x ≤ 20000) (hl2 : lenZ y ≤ 20000) (hy : y ≠ 0) :
    Calls Tryd.prog 33 #[a0, a1] w (RetZZE (x.fdiv y) (x.fmod y) 0 w) := by
  obtain ⟨u0, rfl, s0⟩ := h0
  obtain ⟨A0, c0, rfl, _⟩ := id s0
  obtain ⟨u1, rfl, s1⟩ := h1
  obtain ⟨A1, c1, rfl, _⟩ := id s1
  have HL : Hid ((digs 4294967296 x.natAbs).length ≤ 90000) := Nat.le_trans hl (by omega)
  have HL2 : Hid ((digs 4294967296 y.natAbs).length ≤ 90000) := Nat.le_trans hl2 (by omega)
  obtain ⟨Q, hQ⟩ : ∃ Q, Q = x.natAbs / y.natAbs := ⟨_, rfl⟩
  obtain ⟨M, hM⟩ : ∃ M, M = x.natAbs % y.natAbs := ⟨_, rfl⟩
  have HQ := Lib.hid hQ.symm
  have HMo := Lib.hid hM.symm
  have HY : Hid (0 < y.natAbs) := by show 0 < _; omega
  have HMl : Hid (M ≤ y.natAbs) := by show _ ≤ _; rw [hM]; exact Nat.le_of_lt (Nat.mod_lt _ HY.out)
  have HQl : Hid ((digs 4294967296 (Q + 1)).length ≤ 1000000) := by
    show _ ≤ _
    have h1 := add_len Q 1
    have h2 : (digs 4294967296 Q).length ≤ (digs 4294967296 x.natAbs).length := by (rw [hQ]; exact div_len _ _)
    have h3 : (digs 4294967296 1).length ≤ 1 := len1_of_lt (by omega)
    have := HL.out; omega
  rcases hs0 : ngB x with _ | _ <;> rcases hs1 : ngB y with _ | _
  · have HS := floor_same hy (.inl (by rw [hs0, hs1]))
    rw [← hQ, ← hM, hs0, hs1] at HS
    have HZ1 : Hid (sg false (Q) = x.fdiv y) := HS.1
    have HZ2 : Hid (sg false (M) = x.fmod y) := HS.2
    clear HS hQ hM hy
    go_enter Tryd.func33, Tryd.ntmps33
    go_upto_region 1 with (fail)
    obtain ⟨wx, hwx, bb, B0, B1, B2, B3, hsz⟩ := vars4 w 25 25 25 25 #[.bool false, .slice A0 (digs 4294967296 (x).natAbs).length c0] #[.bool false, .slice A1 (digs 4294967296 (y).natAbs).length c1] #[.bool false, .slice none 0 0] #[.bool false, .slice none 0 0]
    rw [hwx]
    clear hwx
    have k0s := s0.below bb
    have k0 : IsZ wx (.agg #[.bool false, .slice A0 (digs 4294967296 (x).natAbs).length c0]) (x) := isZ_mk k0s rfl hs0.symm
    have k1s := s1.below bb
    have k1 : IsZ wx (.agg #[.bool false, .slice A1 (digs 4294967296 (y).natAbs).length c1]) (y) := isZ_mk k1s rfl hs1.symm
    have hszb := bb.size
    have bb0 := bb.size
    refine flowp 12 [Pd.eq (.pointer (some ⟨w.heap.size, 1, none⟩)), Pd.eq (.slice A0 (digs 4294967296 (x).natAbs).length c0), Pd.eq (.pointer (some ⟨w.heap.size + 1, 1, none⟩)), Pd.eq (.slice A1 (digs 4294967296 (y).natAbs).length c1), pt3 .u64 (digs 4294967296 Q) (digs 4294967296 M) 0 wx.heap.size, pt3 .u64 (digs 4294967296 Q) (digs 4294967296 M) 0 wx.heap.size, ps .u64 (digs 4294967296 Q) wx.heap.size, ps .u64 (digs 4294967296 M) wx.heap.size, Pd.eq (.int .i64 0), ps .u64 (digs 4294967296 Q) wx.heap.size, ps .u64 (digs 4294967296 M) wx.heap.size, Pd.eq (.int .i64 0)] (by kernel_rfl) ?ob6 ?done6
    case ob6 =>
      refine And.intro (ob_fieldAddr rfl (wt_none rfl) (ev_far rfl rfl) (fun _ => by kernel_rfl) (fun _ => rfl)) ?_
      refine And.intro (ob_load rfl (wt_none rfl) (ev_dep (j := 0) (by kernel_rfl) rfl rfl) (fun w2 hb => run_load1 Tryd.underlying23 rfl ((B0.below hb).cell 1)) (fun _ _ => rfl)) ?_
      refine And.intro (ob_fieldAddr rfl (wt_none rfl) (ev_far rfl rfl) (fun _ => by kernel_rfl) (fun _ => rfl)) ?_
      refine And.intro (ob_load rfl (wt_none rfl) (ev_dep (j := 2) (by kernel_rfl) rfl rfl) (fun w2 hb => run_load1 Tryd.underlying23 rfl ((B1.below hb).cell 1)) (fun _ _ => rfl)) ?_
      refine And.intro (ob_call2 rfl Tryd.func57 (by kernel_rfl) (wt_none rfl) (ev_dep (j := 1) (by kernel_rfl) rfl rfl) (ev_dep (j := 3) (by kernel_rfl) rfl rfl) (fun w2 u0 u1 hb h0 h1 => by obtain rfl := h0; obtain rfl := h1; exact (HQ.out ▸ HMo.out ▸ ddiv_ok _ _ _ _ _ (k0s.below hb) (k1s.below hb) HL.out HL2.out HY.out).mono fun e w3 h => RetSSE.pd h hb.size)) ?_
      refine And.intro (ob_move rfl (wt_none rfl) (ev_dep (j := 4) (by kernel_rfl) rfl rfl) (fun _ _ h => h)) ?_
      refine And.intro (ob_extract rfl (wt_none rfl) (ev_dep (j := 5) (by kernel_rfl) rfl rfl) (fun w2 u hu => by obtain ⟨v, u, rfl, q1, q2, q3, q4⟩ := hu; exact ⟨v, rfl, q1, q3⟩)) ?_
      refine And.intro (ob_extract rfl (wt_none rfl) (ev_dep (j := 5) (by kernel_rfl) rfl rfl) (fun w2 u hu => by obtain ⟨v, u, rfl, q1, q2, q3, q4⟩ := hu; exact ⟨u, rfl, q2, q4⟩)) ?_
      refine And.intro (ob_extract rfl (wt_none rfl) (ev_dep (j := 5) (by kernel_rfl) rfl rfl) (fun w2 u hu => by obtain ⟨v, u, rfl, q1, q2, q3, q4⟩ := hu; exact ⟨_, rfl, rfl⟩)) ?_
      refine And.intro (ob_assign rfl (wt_none rfl) (ev_dep (j := 6) (by kernel_rfl) rfl rfl) (fun _ _ h => h)) ?_
      refine And.intro (ob_assign rfl (wt_none rfl) (ev_dep (j := 7) (by kernel_rfl) rfl rfl) (fun _ _ h => h)) ?_
      refine And.intro (ob_assign rfl (wt_none rfl) (ev_dep (j := 8) (by kernel_rfl) rfl rfl) (fun _ _ h => h)) ?_
      trivial
    case done6 =>
      refine fun w1 hb1 v0 h0 v1 h1 v2 h2 v3 h3 v4 h4 v5 h5 v6 h6 v7 h7 v8 h8 v9 h9 v10 h10 v11 h11 b hbf => ?_
      obtain rfl := h0; obtain rfl := h1; obtain rfl := h2; obtain rfl := h3; obtain rfl := h8; obtain rfl := h11
      clear h4
      clear h5
      obtain ⟨q6, f6⟩ := h6
      obtain ⟨q7, f7⟩ := h7
      obtain ⟨q9, f9⟩ := h9
      obtain ⟨q10, f10⟩ := h10
      simp only [Act.put, List.setIfInBounds_toArray, List.set_cons_zero, List.set_cons_succ] at hbf
      subst hbf
      obtain ⟨A6, c6, rfl, _⟩ := id q9
      have kq := q9
      have kqf := f9
      obtain ⟨A7, c7, rfl, _⟩ := id q10
      have kr := q10
      have krf := f10
      replace B0 := B0.below hb1
      replace B1 := B1.below hb1
      replace B2 := B2.below hb1
      replace B3 := B3.below hb1
      replace k0s := k0s.below hb1
      replace k1s := k1s.below hb1
      replace k0 := k0.below hb1
      replace k1 := k1.below hb1
      replace bb := bb.trans (hb1.mono bb.size)
      have hszb := bb.size
      obtain ⟨x00, x01, y00, y01⟩ := Blk.two B0
      obtain ⟨x10, x11, y10, y11⟩ := Blk.two B1
      obtain ⟨x20, x21, y20, y21⟩ := Blk.two B2
      obtain ⟨x30, x31, y30, y31⟩ := Blk.two B3
      refine ops_done ?_
      go_upto_region 7 with (fail)
      refine flow 11 [Pd.eq (.pointer (some ⟨w.heap.size, 0, none⟩)), Pd.eq (.bool false), Pd.eq (.pointer (some ⟨w.heap.size + 1, 0, none⟩)), Pd.eq (.bool false), Pd.eq (.bool false), Pd.eq (.slice A6 (digs 4294967296 Q).length c6), pz (x.fdiv y) wx.heap.size, Pd.eq (.pointer (some ⟨w.heap.size + 1, 0, none⟩)), Pd.eq (.bool false), Pd.eq (.slice A7 (digs 4294967296 M).length c7), pz (x.fmod y) wx.heap.size] (by kernel_rfl) (by kernel_rfl) ?ob7 ?done7
      case ob7 =>
        refine And.intro (ob_fieldAddr rfl (wt_none rfl) (ev_far rfl rfl) (fun _ => by kernel_rfl) (fun _ => rfl)) ?_
        refine And.intro (ob_load rfl (wt_none rfl) (ev_dep (j := 0) (by kernel_rfl) rfl rfl) (fun w2 hb => run_load1 Tryd.underlying4 rfl ((B0.drew.below hb).cell 0)) (fun _ _ => rfl)) ?_
        refine And.intro (ob_fieldAddr rfl (wt_none rfl) (ev_far rfl rfl) (fun _ => by kernel_rfl) (fun _ => rfl)) ?_
        refine And.intro (ob_load rfl (wt_none rfl) (ev_dep (j := 2) (by kernel_rfl) rfl rfl) (fun w2 hb => run_load1 Tryd.underlying4 rfl ((B1.drew.below hb).cell 0)) (fun _ _ => rfl)) ?_
        refine And.intro (ob_bin rfl (wt_none rfl) (ev_dep (j := 1) (by kernel_rfl) rfl rfl) (ev_dep (j := 3) (by kernel_rfl) rfl rfl) (fun _ _ _ hx hy => ⟨.bool (!(false == false)), by rw [hx, hy]; exact bin_neq_bool _ _ _ _ Tryd.underlying4 _, rfl⟩)) ?_
        refine And.intro (ob_move rfl (wt_none rfl) (ev_far rfl rfl) (fun _ _ h => h)) ?_
        refine And.intro (ob_call2 rfl Tryd.func42 (by kernel_rfl) (wt_none rfl) (ev_dep (j := 4) (by kernel_rfl) rfl rfl) (ev_dep (j := 5) (by kernel_rfl) rfl rfl) (fun w2 u0 u1 hb h0 h1 => by obtain rfl := h0; obtain rfl := h1; exact signed_pd _ _ _ (x.fdiv y) _ (kq.drew.below hb) (kqf) HZ1.out)) ?_
        refine And.intro (ob_fieldAddr rfl (wt_none rfl) (ev_far rfl rfl) (fun _ => by kernel_rfl) (fun _ => rfl)) ?_
        refine And.intro (ob_load rfl (wt_none rfl) (ev_dep (j := 7) (by kernel_rfl) rfl rfl) (fun w2 hb => run_load1 Tryd.underlying4 rfl ((B1.drew.below hb).cell 0)) (fun _ _ => rfl)) ?_
        refine And.intro (ob_move rfl (wt_none rfl) (ev_far rfl rfl) (fun _ _ h => h)) ?_
        refine And.intro (ob_call2 rfl Tryd.func42 (by kernel_rfl) (wt_none rfl) (ev_dep (j := 8) (by kernel_rfl) rfl rfl) (ev_dep (j := 9) (by kernel_rfl) rfl rfl) (fun w2 u0 u1 hb h0 h1 => by obtain rfl := h0; obtain rfl := h1; exact signed_pd _ _ _ (x.fmod y) _ (kr.drew.below hb) (krf) HZ2.out)) ?_
        trivial
      case done7 =>
        refine fun w7 hb7 v0 h0 v1 h1 v2 h2 v3 h3 v4 h4 v5 h5 v6 h6 v7 h7 v8 h8 v9 h9 v10 h10 b hbf => ?_
        obtain rfl := h0; obtain rfl := h1; obtain rfl := h2; obtain rfl := h3; obtain rfl := h4; obtain rfl := h5; obtain rfl := h7; obtain rfl := h8; obtain rfl := h9
        obtain ⟨q6, f6⟩ := h6
        obtain ⟨q10, f10⟩ := h10
        simp only [Act.put, List.setIfInBounds_toArray, List.set_cons_zero, List.set_cons_succ] at hbf
        subst hbf
        obtain ⟨u6, rfl, q6⟩ := q6
        obtain ⟨A9, c9, rfl, _⟩ := id q6
        obtain ⟨u10, rfl, q10⟩ := q10
        obtain ⟨A8, c8, rfl, _⟩ := id q10
        have B9 := B2.below hb7
        have B8 := B3.below hb7
        refine any_store (i := 11) (by kernel_rfl) rfl rfl rfl rfl rfl rfl (cells := [.bool (ngB (x.fdiv y)), .slice A9 (digs 4294967296 (x.fdiv y).natAbs).length c9]) rfl B9 rfl (by kernel_rfl) (one2 rfl rfl) fun w9 hg9 BB9 => ?_
        have k9 := off q6 B9 no_ints2 hg9
        have k8 := off q10 B9 no_ints2 hg9
        have B8' := B8.grown hg9 (by omega)
        have f9 := (f6 _ _ rfl).mono bb0
        have f8 := (f10 _ _ rfl).mono bb0
        have bb9 := ((bb.trans (hb7.mono bb.size)).trans ((Below.refl _ _).grown hg9 (Nat.le_trans bb.size hb7.size) (fun g hg => by injection hg with hg; omega)))
        refine any_store (i := 12) (by kernel_rfl) rfl rfl rfl rfl rfl rfl (cells := [.bool (ngB (x.fmod y)), .slice A8 (digs 4294967296 (x.fmod y).natAbs).length c8]) rfl B8' rfl (by kernel_rfl) (one2 rfl rfl) fun w8 hg8 BB8 => ?_
        have k9b := off k9 B8' no_ints2 hg8
        have k8b := off k8 B8' no_ints2 hg8
        have BB9' := Blk.grown BB9 hg8 (by omega)
        have bb8 := bb9.trans ((Below.refl _ _).grown hg8 bb9.size (fun g hg => by injection hg with hg; omega))
        obtain ⟨c0, c1, _, _⟩ := Blk.two BB9'
        obtain ⟨d0, d1, _, _⟩ := Blk.two BB8
        refine any_assign (i := 13) (.int .i64 0) (by kernel_rfl) rfl rfl rfl rfl rfl fun b hbf => ?_
        simp only [Act.put, List.setIfInBounds_toArray, List.set_cons_zero, List.set_cons_succ] at hbf
        subst hbf
        refine any_done (by kernel_rfl) ?_
        go_wp2
        exact bodyPost_ret (v := .tuple #[.agg #[.bool (ngB (x.fdiv y)), .slice A9 (digs 4294967296 (x.fdiv y).natAbs).length c9], .agg #[.bool (ngB (x.fmod y)), .slice A8 (digs 4294967296 (x.fmod y).natAbs).length c8], .int .i64 0]) (by simp [results, Tryd.results33, go_sem, c0, c1, d0, d1]) rfl ⟨_, _, rfl, isZ_mk k9b rfl rfl, isZ_mk k8b rfl rfl, freshZ_mk f9, freshZ_mk f8, bb8⟩
  · by_cases hm0 : 0 < M
    · have HS := floor_off hy (by rw [hs0, hs1]; simp) (by rw [← hM]; exact hm0)
      rw [← hQ, ← hM, hs1] at HS
      have HZ1 : Hid (sg true (Q + 1) = x.fdiv y) := HS.1
      have HZ2 : Hid (sg true (y.natAbs - M) = x.fmod y) := HS.2
      clear HS hQ hM hy
      go_enter Tryd.func33, Tryd.ntmps33
      go_upto_region 1 with (fail)
      obtain ⟨wx, hwx, bb, B0, B1, B2, B3, hsz⟩ := vars4 w 25 25 25 25 #[.bool false, .slice A0 (digs 4294967296 (x).natAbs).length c0] #[.bool true, .slice A1 (digs 4294967296 (y).natAbs).length c1] #[.bool false, .slice none 0 0] #[.bool false, .slice none 0 0]
      rw [hwx]
      clear hwx
      have k0s := s0.below bb
      have k0 : IsZ wx (.agg #[.bool false, .slice A0 (digs 4294967296 (x).natAbs).length c0]) (x) := isZ_mk k0s rfl hs0.symm
      have k1s := s1.below bb
      have k1 : IsZ wx (.agg #[.bool true, .slice A1 (digs 4294967296 (y).natAbs).length c1]) (y) := isZ_mk k1s rfl hs1.symm
      have hszb := bb.size
      have bb0 := bb.size
      refine flowp 12 [Pd.eq (.pointer (some ⟨w.heap.size, 1, none⟩)), Pd.eq (.slice A0 (digs 4294967296 (x).natAbs).length c0), Pd.eq (.pointer (some ⟨w.heap.size + 1, 1, none⟩)), Pd.eq (.slice A1 (digs 4294967296 (y).natAbs).length c1), pt3 .u64 (digs 4294967296 Q) (digs 4294967296 M) 0 wx.heap.size, pt3 .u64 (digs 4294967296 Q) (digs 4294967296 M) 0 wx.heap.size, ps .u64 (digs 4294967296 Q) wx.heap.size, ps .u64 (digs 4294967296 M) wx.heap.size, Pd.eq (.int .i64 0), ps .u64 (digs 4294967296 Q) wx.heap.size, ps .u64 (digs 4294967296 M) wx.heap.size, Pd.eq (.int .i64 0)] (by kernel_rfl) ?ob8 ?done8
      case ob8 =>
        refine And.intro (ob_fieldAddr rfl (wt_none rfl) (ev_far rfl rfl) (fun _ => by kernel_rfl) (fun _ => rfl)) ?_
        refine And.intro (ob_load rfl (wt_none rfl) (ev_dep (j := 0) (by kernel_rfl) rfl rfl) (fun w2 hb => run_load1 Tryd.underlying23 rfl ((B0.below hb).cell 1)) (fun _ _ => rfl)) ?_
        refine And.intro (ob_fieldAddr rfl (wt_none rfl) (ev_far rfl rfl) (fun _ => by kernel_rfl) (fun _ => rfl)) ?_
        refine And.intro (ob_load rfl (wt_none rfl) (ev_dep (j := 2) (by kernel_rfl) rfl rfl) (fun w2 hb => run_load1 Tryd.underlying23 rfl ((B1.below hb).cell 1)) (fun _ _ => rfl)) ?_
        refine And.intro (ob_call2 rfl Tryd.func57 (by kernel_rfl) (wt_none rfl) (ev_dep (j := 1) (by kernel_rfl) rfl rfl) (ev_dep (j := 3) (by kernel_rfl) rfl rfl) (fun w2 u0 u1 hb h0 h1 => by obtain rfl := h0; obtain rfl := h1; exact (HQ.out ▸ HMo.out ▸ ddiv_ok _ _ _ _ _ (k0s.below hb) (k1s.below hb) HL.out HL2.out HY.out).mono fun e w3 h => RetSSE.pd h hb.size)) ?_
        refine And.intro (ob_move rfl (wt_none rfl) (ev_dep (j := 4) (by kernel_rfl) rfl rfl) (fun _ _ h => h)) ?_
        refine And.intro (ob_extract rfl (wt_none rfl) (ev_dep (j := 5) (by kernel_rfl) rfl rfl) (fun w2 u hu => by obtain ⟨v, u, rfl, q1, q2, q3, q4⟩ := hu; exact ⟨v, rfl, q1, q3⟩)) ?_
        refine And.intro (ob_extract rfl (wt_none rfl) (ev_dep (j := 5) (by kernel_rfl) rfl rfl) (fun w2 u hu => by obtain ⟨v, u, rfl, q1, q2, q3, q4⟩ := hu; exact ⟨u, rfl, q2, q4⟩)) ?_
        refine And.intro (ob_extract rfl (wt_none rfl) (ev_dep (j := 5) (by kernel_rfl) rfl rfl) (fun w2 u hu => by obtain ⟨v, u, rfl, q1, q2, q3, q4⟩ := hu; exact ⟨_, rfl, rfl⟩)) ?_
        refine And.intro (ob_assign rfl (wt_none rfl) (ev_dep (j := 6) (by kernel_rfl) rfl rfl) (fun _ _ h => h)) ?_
        refine And.intro (ob_assign rfl (wt_none rfl) (ev_dep (j := 7) (by kernel_rfl) rfl rfl) (fun _ _ h => h)) ?_
        refine And.intro (ob_assign rfl (wt_none rfl) (ev_dep (j := 8) (by kernel_rfl) rfl rfl) (fun _ _ h => h)) ?_
        trivial
      case done8 =>
        refine fun w1 hb1 v0 h0 v1 h1 v2 h2 v3 h3 v4 h4 v5 h5 v6 h6 v7 h7 v8 h8 v9 h9 v10 h10 v11 h11 b hbf => ?_
        obtain rfl := h0; obtain rfl := h1; obtain rfl := h2; obtain rfl := h3; obtain rfl := h8; obtain rfl := h11
        clear h4
        clear h5
        obtain ⟨q6, f6⟩ := h6
        obtain ⟨q7, f7⟩ := h7
        obtain ⟨q9, f9⟩ := h9
        obtain ⟨q10, f10⟩ := h10
        simp only [Act.put, List.setIfInBounds_toArray, List.set_cons_zero, List.set_cons_succ] at hbf
        subst hbf
        obtain ⟨A6, c6, rfl, _⟩ := id q9
        have kq := q9
        have kqf := f9
        obtain ⟨A7, c7, rfl, _⟩ := id q10
        have kr := q10
        have krf := f10
        replace B0 := B0.below hb1
        replace B1 := B1.below hb1
        replace B2 := B2.below hb1
        replace B3 := B3.below hb1
        replace k0s := k0s.below hb1
        replace k1s := k1s.below hb1
        replace k0 := k0.below hb1
        replace k1 := k1.below hb1
        replace bb := bb.trans (hb1.mono bb.size)
        have hszb := bb.size
        obtain ⟨x00, x01, y00, y01⟩ := Blk.two B0
        obtain ⟨x10, x11, y10, y11⟩ := Blk.two B1
        obtain ⟨x20, x21, y20, y21⟩ := Blk.two B2
        obtain ⟨x30, x31, y30, y31⟩ := Blk.two B3
        refine ops_done ?_
        have hmp : 0 < (digs 4294967296 M).length := len_pos hm0
        go_upto_region 5 with (fail)
        refine flowp 3 [Pd.eq (.slice A6 (digs 4294967296 Q).length c6), ps .u64 (digs 4294967296 1) w1.heap.size, ps .u64 (digs 4294967296 (Q + 1)) w1.heap.size] (by kernel_rfl) ?ob9 ?done9
        case ob9 =>
          refine And.intro (ob_move rfl (wt_none rfl) (ev_far rfl rfl) (fun _ _ h => h)) ?_
          refine And.intro (ob_call1 rfl Tryd.func51 (by kernel_rfl) (wt_none rfl) (ev_const _) (fun w2 u0 hb h0 => by obtain rfl := h0; exact (of_any _ 1 _ rfl (by omega)).mono fun e w3 h => RetS.pd h hb.size)) ?_
          refine And.intro (ob_call2 rfl Tryd.func43 (by kernel_rfl) (wt_none rfl) (ev_dep (j := 0) (by kernel_rfl) rfl rfl) (ev_dep (j := 1) (by kernel_rfl) rfl rfl) (fun w2 u0 u1 hb h0 h1 => by obtain rfl := h0; exact (add_any _ _ _ _ _ (kq.below hb) h1.1 _ rfl HQl.out).mono fun e w3 h => RetS.pd h hb.size)) ?_
          trivial
        case done9 =>
          refine fun w2 hb2 v0 h0 v1 h1 v2 h2 b hbf => ?_
          obtain rfl := h0
          obtain ⟨q1, f1⟩ := h1
          obtain ⟨q2, f2⟩ := h2
          simp only [Act.put, List.setIfInBounds_toArray, List.set_cons_zero, List.set_cons_succ] at hbf
          subst hbf
          obtain ⟨A5, c5, rfl, _⟩ := id q2
          have kp := q2
          have kpf := f2
          replace B0 := B0.below hb2
          replace B1 := B1.below hb2
          replace B2 := B2.below hb2
          replace B3 := B3.below hb2
          replace k0s := k0s.below hb2
          replace k1s := k1s.below hb2
          replace k0 := k0.below hb2
          replace k1 := k1.below hb2
          replace kq := kq.below hb2
          replace kr := kr.below hb2
          replace bb := bb.trans (hb2.mono bb.size)
          have bb1 : wx.heap.size ≤ w1.heap.size := hb1.size
          have hszb := bb.size
          obtain ⟨x00, x01, y00, y01⟩ := Blk.two B0
          obtain ⟨x10, x11, y10, y11⟩ := Blk.two B1
          obtain ⟨x20, x21, y20, y21⟩ := Blk.two B2
          obtain ⟨x30, x31, y30, y31⟩ := Blk.two B3
          refine ops_assign (i := 3) (.slice A5 (digs 4294967296 (Q + 1)).length c5) rfl rfl rfl rfl rfl fun b hbf => ?_
          simp only [Act.put, List.setIfInBounds_toArray, List.set_cons_zero, List.set_cons_succ] at hbf
          subst hbf
          refine ops_done ?_
          go_upto_region 6 with (fail)
          refine flowp 7 [Pd.eq (.pointer (some ⟨w.heap.size + 1, 1, none⟩)), Pd.eq (.slice A1 (digs 4294967296 (y).natAbs).length c1), Pd.eq (.slice A7 (digs 4294967296 M).length c7), pt .u64 (digs 4294967296 (y.natAbs - M)) 0 w2.heap.size, pt .u64 (digs 4294967296 (y.natAbs - M)) 0 w2.heap.size, ps .u64 (digs 4294967296 (y.natAbs - M)) w2.heap.size, Pd.eq (.int .i64 0)] (by kernel_rfl) ?ob10 ?done10
          case ob10 =>
            refine And.intro (ob_fieldAddr rfl (wt_none rfl) (ev_far rfl rfl) (fun _ => by kernel_rfl) (fun _ => rfl)) ?_
            refine And.intro (ob_load rfl (wt_none rfl) (ev_dep (j := 0) (by kernel_rfl) rfl rfl) (fun w2 hb => run_load1 Tryd.underlying23 rfl ((B1.below hb).cell 1)) (fun _ _ => rfl)) ?_
            refine And.intro (ob_move rfl (wt_none rfl) (ev_far rfl rfl) (fun _ _ h => h)) ?_
            refine And.intro (ob_call2 rfl Tryd.func58 (by kernel_rfl) (wt_none rfl) (ev_dep (j := 1) (by kernel_rfl) rfl rfl) (ev_dep (j := 2) (by kernel_rfl) rfl rfl) (fun w2 u0 u1 hb h0 h1 => by obtain rfl := h0; obtain rfl := h1; exact (sub_ok _ _ _ _ _ (k1s.below hb) (kr.below hb) (Nat.le_trans HL2.out (by decide)) HMl.out _ rfl).mono fun e w3 h => RetSI.pd h hb.size)) ?_
            refine And.intro (ob_move rfl (wt_none rfl) (ev_dep (j := 3) (by kernel_rfl) rfl rfl) (fun _ _ h => h)) ?_
            refine And.intro (ob_extract rfl (wt_none rfl) (ev_dep (j := 4) (by kernel_rfl) rfl rfl) (fun w2 u hu => by obtain ⟨v, rfl, q1, q2⟩ := hu; exact ⟨v, rfl, q1, q2⟩)) ?_
            refine And.intro (ob_extract rfl (wt_none rfl) (ev_dep (j := 4) (by kernel_rfl) rfl rfl) (fun w2 u hu => by obtain ⟨v, rfl, q1, q2⟩ := hu; exact ⟨_, rfl, rfl⟩)) ?_
            trivial
          case done10 =>
            refine fun w3 hb3 v0 h0 v1 h1 v2 h2 v3 h3 v4 h4 v5 h5 v6 h6 b hbf => ?_
            obtain rfl := h0; obtain rfl := h1; obtain rfl := h2; obtain rfl := h6
            clear h3
            clear h4
            obtain ⟨q5, f5⟩ := h5
            simp only [Act.put, List.setIfInBounds_toArray, List.set_cons_zero, List.set_cons_succ] at hbf
            subst hbf
            obtain ⟨A4, c4, rfl, _⟩ := id q5
            have ks := q5
            have ksf := f5
            replace B0 := B0.below hb3
            replace B1 := B1.below hb3
            replace B2 := B2.below hb3
            replace B3 := B3.below hb3
            replace k0s := k0s.below hb3
            replace k1s := k1s.below hb3
            replace k0 := k0.below hb3
            replace k1 := k1.below hb3
            replace kp := kp.below hb3
            replace bb := bb.trans (hb3.mono bb.size)
            have bb2 : wx.heap.size ≤ w2.heap.size := Nat.le_trans hb1.size hb2.size
            have hszb := bb.size
            obtain ⟨x00, x01, y00, y01⟩ := Blk.two B0
            obtain ⟨x10, x11, y10, y11⟩ := Blk.two B1
            obtain ⟨x20, x21, y20, y21⟩ := Blk.two B2
            obtain ⟨x30, x31, y30, y31⟩ := Blk.two B3
            refine ops_assign (i := 7) (.slice A4 (digs 4294967296 (y.natAbs - M)).length c4) rfl rfl rfl rfl rfl fun b hbf => ?_
            simp only [Act.put, List.setIfInBounds_toArray, List.set_cons_zero, List.set_cons_succ] at hbf
            subst hbf
            refine ops_done ?_
            go_upto_region 7 with (fail)
            refine flow 11 [Pd.eq (.pointer (some ⟨w.heap.size, 0, none⟩)), Pd.eq (.bool false), Pd.eq (.pointer (some ⟨w.heap.size + 1, 0, none⟩)), Pd.eq (.bool true), Pd.eq (.bool true), Pd.eq (.slice A5 (digs 4294967296 (Q + 1)).length c5), pz (x.fdiv y) wx.heap.size, Pd.eq (.pointer (some ⟨w.heap.size + 1, 0, none⟩)), Pd.eq (.bool true), Pd.eq (.slice A4 (digs 4294967296 (y.natAbs - M)).length c4), pz (x.fmod y) wx.heap.size] (by kernel_rfl) (by kernel_rfl) ?ob11 ?done11
            case ob11 =>
              refine And.intro (ob_fieldAddr rfl (wt_none rfl) (ev_far rfl rfl) (fun _ => by kernel_rfl) (fun _ => rfl)) ?_
              refine And.intro (ob_load rfl (wt_none rfl) (ev_dep (j := 0) (by kernel_rfl) rfl rfl) (fun w2 hb => run_load1 Tryd.underlying4 rfl ((B0.drew.below hb).cell 0)) (fun _ _ => rfl)) ?_
              refine And.intro (ob_fieldAddr rfl (wt_none rfl) (ev_far rfl rfl) (fun _ => by kernel_rfl) (fun _ => rfl)) ?_
              refine And.intro (ob_load rfl (wt_none rfl) (ev_dep (j := 2) (by kernel_rfl) rfl rfl) (fun w2 hb => run_load1 Tryd.underlying4 rfl ((B1.drew.below hb).cell 0)) (fun _ _ => rfl)) ?_
              refine And.intro (ob_bin rfl (wt_none rfl) (ev_dep (j := 1) (by kernel_rfl) rfl rfl) (ev_dep (j := 3) (by kernel_rfl) rfl rfl) (fun _ _ _ hx hy => ⟨.bool (!(false == true)), by rw [hx, hy]; exact bin_neq_bool _ _ _ _ Tryd.underlying4 _, rfl⟩)) ?_
              refine And.intro (ob_move rfl (wt_none rfl) (ev_far rfl rfl) (fun _ _ h => h)) ?_
              refine And.intro (ob_call2 rfl Tryd.func42 (by kernel_rfl) (wt_none rfl) (ev_dep (j := 4) (by kernel_rfl) rfl rfl) (ev_dep (j := 5) (by kernel_rfl) rfl rfl) (fun w2 u0 u1 hb h0 h1 => by obtain rfl := h0; obtain rfl := h1; exact signed_pd _ _ _ (x.fdiv y) _ (kp.drew.below hb) (kpf.mono bb1) HZ1.out)) ?_
              refine And.intro (ob_fieldAddr rfl (wt_none rfl) (ev_far rfl rfl) (fun _ => by kernel_rfl) (fun _ => rfl)) ?_
              refine And.intro (ob_load rfl (wt_none rfl) (ev_dep (j := 7) (by kernel_rfl) rfl rfl) (fun w2 hb => run_load1 Tryd.underlying4 rfl ((B1.drew.below hb).cell 0)) (fun _ _ => rfl)) ?_
              refine And.intro (ob_move rfl (wt_none rfl) (ev_far rfl rfl) (fun _ _ h => h)) ?_
              refine And.intro (ob_call2 rfl Tryd.func42 (by kernel_rfl) (wt_none rfl) (ev_dep (j := 8) (by kernel_rfl) rfl rfl) (ev_dep (j := 9) (by kernel_rfl) rfl rfl) (fun w2 u0 u1 hb h0 h1 => by obtain rfl := h0; obtain rfl := h1; exact signed_pd _ _ _ (x.fmod y) _ (ks.drew.below hb) (ksf.mono bb2) HZ2.out)) ?_
              trivial
            case done11 =>
              refine fun w7 hb7 v0 h0 v1 h1 v2 h2 v3 h3 v4 h4 v5 h5 v6 h6 v7 h7 v8 h8 v9 h9 v10 h10 b hbf => ?_
              obtain rfl := h0; obtain rfl := h1; obtain rfl := h2; obtain rfl := h3; obtain rfl := h4; obtain rfl := h5; obtain rfl := h7; obtain rfl := h8; obtain rfl := h9
              obtain ⟨q6, f6⟩ := h6
              obtain ⟨q10, f10⟩ := h10
              simp only [Act.put, List.setIfInBounds_toArray, List.set_cons_zero, List.set_cons_succ] at hbf
              subst hbf
              obtain ⟨u6, rfl, q6⟩ := q6
              obtain ⟨A9, c9, rfl, _⟩ := id q6
              obtain ⟨u10, rfl, q10⟩ := q10
              obtain ⟨A8, c8, rfl, _⟩ := id q10
              have B9 := B2.below hb7
              have B8 := B3.below hb7
              refine any_store (i := 11) (by kernel_rfl) rfl rfl rfl rfl rfl rfl (cells := [.bool (ngB (x.fdiv y)), .slice A9 (digs 4294967296 (x.fdiv y).natAbs).length c9]) rfl B9 rfl (by kernel_rfl) (one2 rfl rfl) fun w9 hg9 BB9 => ?_
              have k9 := off q6 B9 no_ints2 hg9
              have k8 := off q10 B9 no_ints2 hg9
              have B8' := B8.grown hg9 (by omega)
              have f9 := (f6 _ _ rfl).mono bb0
              have f8 := (f10 _ _ rfl).mono bb0
              have bb9 := ((bb.trans (hb7.mono bb.size)).trans ((Below.refl _ _).grown hg9 (Nat.le_trans bb.size hb7.size) (fun g hg => by injection hg with hg; omega)))
              refine any_store (i := 12) (by kernel_rfl) rfl rfl rfl rfl rfl rfl (cells := [.bool (ngB (x.fmod y)), .slice A8 (digs 4294967296 (x.fmod y).natAbs).length c8]) rfl B8' rfl (by kernel_rfl) (one2 rfl rfl) fun w8 hg8 BB8 => ?_
              have k9b := off k9 B8' no_ints2 hg8
              have k8b := off k8 B8' no_ints2 hg8
              have BB9' := Blk.grown BB9 hg8 (by omega)
              have bb8 := bb9.trans ((Below.refl _ _).grown hg8 bb9.size (fun g hg => by injection hg with hg; omega))
              obtain ⟨c0, c1, _, _⟩ := Blk.two BB9'
              obtain ⟨d0, d1, _, _⟩ := Blk.two BB8
              refine any_assign (i := 13) (.int .i64 0) (by kernel_rfl) rfl rfl rfl rfl rfl fun b hbf => ?_
              simp only [Act.put, List.setIfInBounds_toArray, List.set_cons_zero, List.set_cons_succ] at hbf
              subst hbf
              refine any_done (by kernel_rfl) ?_
              go_wp2
              exact bodyPost_ret (v := .tuple #[.agg #[.bool (ngB (x.fdiv y)), .slice A9 (digs 4294967296 (x.fdiv y).natAbs).length c9], .agg #[.bool (ngB (x.fmod y)), .slice A8 (digs 4294967296 (x.fmod y).natAbs).length c8], .int .i64 0]) (by simp [results, Tryd.results33, go_sem, c0, c1, d0, d1]) rfl ⟨_, _, rfl, isZ_mk k9b rfl rfl, isZ_mk k8b rfl rfl, freshZ_mk f9, freshZ_mk f8, bb8⟩
    · have HS := floor_same (x := x) hy (.inr (by rw [← hM]; omega))
      rw [← hQ, ← hM, hs0, hs1] at HS
      have HZ1 : Hid (sg true (Q) = x.fdiv y) := HS.1
      have HZ2 : Hid (sg true (M) = x.fmod y) := HS.2
      clear HS hQ hM hy
      obtain rfl : M = 0 := by omega
      clear hm0
      go_enter Tryd.func33, Tryd.ntmps33
      go_upto_region 1 with (fail)
      obtain ⟨wx, hwx, bb, B0, B1, B2, B3, hsz⟩ := vars4 w 25 25 25 25 #[.bool false, .slice A0 (digs 4294967296 (x).natAbs).length c0] #[.bool true, .slice A1 (digs 4294967296 (y).natAbs).length c1] #[.bool false, .slice none 0 0] #[.bool false, .slice none 0 0]
      rw [hwx]
      clear hwx
      have k0s := s0.below bb
      have k0 : IsZ wx (.agg #[.bool false, .slice A0 (digs 4294967296 (x).natAbs).length c0]) (x) := isZ_mk k0s rfl hs0.symm
      have k1s := s1.below bb
      have k1 : IsZ wx (.agg #[.bool true, .slice A1 (digs 4294967296 (y).natAbs).length c1]) (y) := isZ_mk k1s rfl hs1.symm
      have hszb := bb.size
      have bb0 := bb.size
      refine flowp 12 [Pd.eq (.pointer (some ⟨w.heap.size, 1, none⟩)), Pd.eq (.slice A0 (digs 4294967296 (x).natAbs).length c0), Pd.eq (.pointer (some ⟨w.heap.size + 1, 1, none⟩)), Pd.eq (.slice A1 (digs 4294967296 (y).natAbs).length c1), pt3 .u64 (digs 4294967296 Q) (digs 4294967296 0) 0 wx.heap.size, pt3 .u64 (digs 4294967296 Q) (digs 4294967296 0) 0 wx.heap.size, ps .u64 (digs 4294967296 Q) wx.heap.size, ps .u64 (digs 4294967296 0) wx.heap.size, Pd.eq (.int .i64 0), ps .u64 (digs 4294967296 Q) wx.heap.size, ps .u64 (digs 4294967296 0) wx.heap.size, Pd.eq (.int .i64 0)] (by kernel_rfl) ?ob12 ?done12
      case ob12 =>
        refine And.intro (ob_fieldAddr rfl (wt_none rfl) (ev_far rfl rfl) (fun _ => by kernel_rfl) (fun _ => rfl)) ?_
        refine And.intro (ob_load rfl (wt_none rfl) (ev_dep (j := 0) (by kernel_rfl) rfl rfl) (fun w2 hb => run_load1 Tryd.underlying23 rfl ((B0.below hb).cell 1)) (fun _ _ => rfl)) ?_
        refine And.intro (ob_fieldAddr rfl (wt_none rfl) (ev_far rfl rfl) (fun _ => by kernel_rfl) (fun _ => rfl)) ?_
        refine And.intro (ob_load rfl (wt_none rfl) (ev_dep (j := 2) (by kernel_rfl) rfl rfl) (fun w2 hb => run_load1 Tryd.underlying23 rfl ((B1.below hb).cell 1)) (fun _ _ => rfl)) ?_
        refine And.intro (ob_call2 rfl Tryd.func57 (by kernel_rfl) (wt_none rfl) (ev_dep (j := 1) (by kernel_rfl) rfl rfl) (ev_dep (j := 3) (by kernel_rfl) rfl rfl) (fun w2 u0 u1 hb h0 h1 => by obtain rfl := h0; obtain rfl := h1; exact (HQ.out ▸ HMo.out ▸ ddiv_ok _ _ _ _ _ (k0s.below hb) (k1s.below hb) HL.out HL2.out HY.out).mono fun e w3 h => RetSSE.pd h hb.size)) ?_
        refine And.intro (ob_move rfl (wt_none rfl) (ev_dep (j := 4) (by kernel_rfl) rfl rfl) (fun _ _ h => h)) ?_
        refine And.intro (ob_extract rfl (wt_none rfl) (ev_dep (j := 5) (by kernel_rfl) rfl rfl) (fun w2 u hu => by obtain ⟨v, u, rfl, q1, q2, q3, q4⟩ := hu; exact ⟨v, rfl, q1, q3⟩)) ?_
        refine And.intro (ob_extract rfl (wt_none rfl) (ev_dep (j := 5) (by kernel_rfl) rfl rfl) (fun w2 u hu => by obtain ⟨v, u, rfl, q1, q2, q3, q4⟩ := hu; exact ⟨u, rfl, q2, q4⟩)) ?_
        refine And.intro (ob_extract rfl (wt_none rfl) (ev_dep (j := 5) (by kernel_rfl) rfl rfl) (fun w2 u hu => by obtain ⟨v, u, rfl, q1, q2, q3, q4⟩ := hu; exact ⟨_, rfl, rfl⟩)) ?_
        refine And.intro (ob_assign rfl (wt_none rfl) (ev_dep (j := 6) (by kernel_rfl) rfl rfl) (fun _ _ h => h)) ?_
        refine And.intro (ob_assign rfl (wt_none rfl) (ev_dep (j := 7) (by kernel_rfl) rfl rfl) (fun _ _ h => h)) ?_
        refine And.intro (ob_assign rfl (wt_none rfl) (ev_dep (j := 8) (by kernel_rfl) rfl rfl) (fun _ _ h => h)) ?_
        trivial
      case done12 =>
        refine fun w1 hb1 v0 h0 v1 h1 v2 h2 v3 h3 v4 h4 v5 h5 v6 h6 v7 h7 v8 h8 v9 h9 v10 h10 v11 h11 b hbf => ?_
        obtain rfl := h0; obtain rfl := h1; obtain rfl := h2; obtain rfl := h3; obtain rfl := h8; obtain rfl := h11
        clear h4
        clear h5
        obtain ⟨q6, f6⟩ := h6
        obtain ⟨q7, f7⟩ := h7
        obtain ⟨q9, f9⟩ := h9
        obtain ⟨q10, f10⟩ := h10
        simp only [Act.put, List.setIfInBounds_toArray, List.set_cons_zero, List.set_cons_succ] at hbf
        subst hbf
        obtain ⟨A6, c6, rfl, _⟩ := id q9
        have kq := q9
        have kqf := f9
        obtain ⟨A7, c7, rfl, _⟩ := id q10
        have kr := q10
        have krf := f10
        replace B0 := B0.below hb1
        replace B1 := B1.below hb1
        replace B2 := B2.below hb1
        replace B3 := B3.below hb1
        replace k0s := k0s.below hb1
        replace k1s := k1s.below hb1
        replace k0 := k0.below hb1
        replace k1 := k1.below hb1
        replace bb := bb.trans (hb1.mono bb.size)
        have hszb := bb.size
        obtain ⟨x00, x01, y00, y01⟩ := Blk.two B0
        obtain ⟨x10, x11, y10, y11⟩ := Blk.two B1
        obtain ⟨x20, x21, y20, y21⟩ := Blk.two B2
        obtain ⟨x30, x31, y30, y31⟩ := Blk.two B3
        refine ops_done ?_
        have hmz : Hid ((digs 4294967296 0).length = 0) := by show _ = _; rw [digs_zero]; rfl
        rw [hmz.out] at kr krf ⊢
        go_upto_region 7 with (fail)
        refine flow 11 [Pd.eq (.pointer (some ⟨w.heap.size, 0, none⟩)), Pd.eq (.bool false), Pd.eq (.pointer (some ⟨w.heap.size + 1, 0, none⟩)), Pd.eq (.bool true), Pd.eq (.bool true), Pd.eq (.slice A6 (digs 4294967296 Q).length c6), pz (x.fdiv y) wx.heap.size, Pd.eq (.pointer (some ⟨w.heap.size + 1, 0, none⟩)), Pd.eq (.bool true), Pd.eq (.slice A7 0 c7), pz (x.fmod y) wx.heap.size] (by kernel_rfl) (by kernel_rfl) ?ob13 ?done13
        case ob13 =>
          refine And.intro (ob_fieldAddr rfl (wt_none rfl) (ev_far rfl rfl) (fun _ => by kernel_rfl) (fun _ => rfl)) ?_
          refine And.intro (ob_load rfl (wt_none rfl) (ev_dep (j := 0) (by kernel_rfl) rfl rfl) (fun w2 hb => run_load1 Tryd.underlying4 rfl ((B0.drew.below hb).cell 0)) (fun _ _ => rfl)) ?_
          refine And.intro (ob_fieldAddr rfl (wt_none rfl) (ev_far rfl rfl) (fun _ => by kernel_rfl) (fun _ => rfl)) ?_
          refine And.intro (ob_load rfl (wt_none rfl) (ev_dep (j := 2) (by kernel_rfl) rfl rfl) (fun w2 hb => run_load1 Tryd.underlying4 rfl ((B1.drew.below hb).cell 0)) (fun _ _ => rfl)) ?_
          refine And.intro (ob_bin rfl (wt_none rfl) (ev_dep (j := 1) (by kernel_rfl) rfl rfl) (ev_dep (j := 3) (by kernel_rfl) rfl rfl) (fun _ _ _ hx hy => ⟨.bool (!(false == true)), by rw [hx, hy]; exact bin_neq_bool _ _ _ _ Tryd.underlying4 _, rfl⟩)) ?_
          refine And.intro (ob_move rfl (wt_none rfl) (ev_far rfl rfl) (fun _ _ h => h)) ?_
          refine And.intro (ob_call2 rfl Tryd.func42 (by kernel_rfl) (wt_none rfl) (ev_dep (j := 4) (by kernel_rfl) rfl rfl) (ev_dep (j := 5) (by kernel_rfl) rfl rfl) (fun w2 u0 u1 hb h0 h1 => by obtain rfl := h0; obtain rfl := h1; exact signed_pd _ _ _ (x.fdiv y) _ (kq.drew.below hb) (kqf) HZ1.out)) ?_
          refine And.intro (ob_fieldAddr rfl (wt_none rfl) (ev_far rfl rfl) (fun _ => by kernel_rfl) (fun _ => rfl)) ?_
          refine And.intro (ob_load rfl (wt_none rfl) (ev_dep (j := 7) (by kernel_rfl) rfl rfl) (fun w2 hb => run_load1 Tryd.underlying4 rfl ((B1.drew.below hb).cell 0)) (fun _ _ => rfl)) ?_
          refine And.intro (ob_move rfl (wt_none rfl) (ev_far rfl rfl) (fun _ _ h => h)) ?_
          refine And.intro (ob_call2 rfl Tryd.func42 (by kernel_rfl) (wt_none rfl) (ev_dep (j := 8) (by kernel_rfl) rfl rfl) (ev_dep (j := 9) (by kernel_rfl) rfl rfl) (fun w2 u0 u1 hb h0 h1 => by obtain rfl := h0; obtain rfl := h1; exact signed_pd _ _ _ (x.fmod y) _ (kr.drew.below hb) (krf) HZ2.out)) ?_
          trivial
        case done13 =>
          refine fun w7 hb7 v0 h0 v1 h1 v2 h2 v3 h3 v4 h4 v5 h5 v6 h6 v7 h7 v8 h8 v9 h9 v10 h10 b hbf => ?_
          obtain rfl := h0; obtain rfl := h1; obtain rfl := h2; obtain rfl := h3; obtain rfl := h4; obtain rfl := h5; obtain rfl := h7; obtain rfl := h8; obtain rfl := h9
          obtain ⟨q6, f6⟩ := h6
          obtain ⟨q10, f10⟩ := h10
          simp only [Act.put, List.setIfInBounds_toArray, List.set_cons_zero, List.set_cons_succ] at hbf
          subst hbf
          obtain ⟨u6, rfl, q6⟩ := q6
          obtain ⟨A9, c9, rfl, _⟩ := id q6
          obtain ⟨u10, rfl, q10⟩ := q10
          obtain ⟨A8, c8, rfl, _⟩ := id q10
          have B9 := B2.below hb7
          have B8 := B3.below hb7
          refine any_store (i := 11) (by kernel_rfl) rfl rfl rfl rfl rfl rfl (cells := [.bool (ngB (x.fdiv y)), .slice A9 (digs 4294967296 (x.fdiv y).natAbs).length c9]) rfl B9 rfl (by kernel_rfl) (one2 rfl rfl) fun w9 hg9 BB9 => ?_
          have k9 := off q6 B9 no_ints2 hg9
          have k8 := off q10 B9 no_ints2 hg9
          have B8' := B8.grown hg9 (by omega)
          have f9 := (f6 _ _ rfl).mono bb0
          have f8 := (f10 _ _ rfl).mono bb0
          have bb9 := ((bb.trans (hb7.mono bb.size)).trans ((Below.refl _ _).grown hg9 (Nat.le_trans bb.size hb7.size) (fun g hg => by injection hg with hg; omega)))
          refine any_store (i := 12) (by kernel_rfl) rfl rfl rfl rfl rfl rfl (cells := [.bool (ngB (x.fmod y)), .slice A8 (digs 4294967296 (x.fmod y).natAbs).length c8]) rfl B8' rfl (by kernel_rfl) (one2 rfl rfl) fun w8 hg8 BB8 => ?_
          have k9b := off k9 B8' no_ints2 hg8
          have k8b := off k8 B8' no_ints2 hg8
          have BB9' := Blk.grown BB9 hg8 (by omega)
          have bb8 := bb9.trans ((Below.refl _ _).grown hg8 bb9.size (fun g hg => by injection hg with hg; omega))
          obtain ⟨c0, c1, _, _⟩ := Blk.two BB9'
          obtain ⟨d0, d1, _, _⟩ := Blk.two BB8
          refine any_assign (i := 13) (.int .i64 0) (by kernel_rfl) rfl rfl rfl rfl rfl fun b hbf => ?_
          simp only [Act.put, List.setIfInBounds_toArray, List.set_cons_zero, List.set_cons_succ] at hbf
          subst hbf
          refine any_done (by kernel_rfl) ?_
          go_wp2
          exact bodyPost_ret (v := .tuple #[.agg #[.bool (ngB (x.fdiv y)), .slice A9 (digs 4294967296 (x.fdiv y).natAbs).length c9], .agg #[.bool (ngB (x.fmod y)), .slice A8 (digs 4294967296 (x.fmod y).natAbs).length c8], .int .i64 0]) (by simp [results, Tryd.results33, go_sem, c0, c1, d0, d1]) rfl ⟨_, _, rfl, isZ_mk k9b rfl rfl, isZ_mk k8b rfl rfl, freshZ_mk f9, freshZ_mk f8, bb8⟩
  · by_cases hm0 : 0 < M
    · have HS := floor_off hy (by rw [hs0, hs1]; simp) (by rw [← hM]; exact hm0)
      rw [← hQ, ← hM, hs1] at HS
      have HZ1 : Hid (sg true (Q + 1) = x.fdiv y) := HS.1
      have HZ2 : Hid (sg false (y.natAbs - M) = x.fmod y) := HS.2
      clear HS hQ hM hy
      go_enter Tryd.func33, Tryd.ntmps33
      go_upto_region 1 with (fail)
      obtain ⟨wx, hwx, bb, B0, B1, B2, B3, hsz⟩ := vars4 w 25 25 25 25 #[.bool true, .slice A0 (digs 4294967296 (x).natAbs).length c0] #[.bool false, .slice A1 (digs 4294967296 (y).natAbs).length c1] #[.bool false, .slice none 0 0] #[.bool false, .slice none 0 0]
      rw [hwx]
      clear hwx
      have k0s := s0.below bb
      have k0 : IsZ wx (.agg #[.bool true, .slice A0 (digs 4294967296 (x).natAbs).length c0]) (x) := isZ_mk k0s rfl hs0.symm
      have k1s := s1.below bb
      have k1 : IsZ wx (.agg #[.bool false, .slice A1 (digs 4294967296 (y).natAbs).length c1]) (y) := isZ_mk k1s rfl hs1.symm
      have hszb := bb.size
      have bb0 := bb.size
      refine flowp 12 [Pd.eq (.pointer (some ⟨w.heap.size, 1, none⟩)), Pd.eq (.slice A0 (digs 4294967296 (x).natAbs).length c0), Pd.eq (.pointer (some ⟨w.heap.size + 1, 1, none⟩)), Pd.eq (.slice A1 (digs 4294967296 (y).natAbs).length c1), pt3 .u64 (digs 4294967296 Q) (digs 4294967296 M) 0 wx.heap.size, pt3 .u64 (digs 4294967296 Q) (digs 4294967296 M) 0 wx.heap.size, ps .u64 (digs 4294967296 Q) wx.heap.size, ps .u64 (digs 4294967296 M) wx.heap.size, Pd.eq (.int .i64 0), ps .u64 (digs 4294967296 Q) wx.heap.size, ps .u64 (digs 4294967296 M) wx.heap.size, Pd.eq (.int .i64 0)] (by kernel_rfl) ?ob14 ?done14
      case ob14 =>
        refine And.intro (ob_fieldAddr rfl (wt_none rfl) (ev_far rfl rfl) (fun _ => by kernel_rfl) (fun _ => rfl)) ?_
        refine And.intro (ob_load rfl (wt_none rfl) (ev_dep (j := 0) (by kernel_rfl) rfl rfl) (fun w2 hb => run_load1 Tryd.underlying23 rfl ((B0.below hb).cell 1)) (fun _ _ => rfl)) ?_
        refine And.intro (ob_fieldAddr rfl (wt_none rfl) (ev_far rfl rfl) (fun _ => by kernel_rfl) (fun _ => rfl)) ?_
        refine And.intro (ob_load rfl (wt_none rfl) (ev_dep (j := 2) (by kernel_rfl) rfl rfl) (fun w2 hb => run_load1 Tryd.underlying23 rfl ((B1.below hb).cell 1)) (fun _ _ => rfl)) ?_
        refine And.intro (ob_call2 rfl Tryd.func57 (by kernel_rfl) (wt_none rfl) (ev_dep (j := 1) (by kernel_rfl) rfl rfl) (ev_dep (j := 3) (by kernel_rfl) rfl rfl) (fun w2 u0 u1 hb h0 h1 => by obtain rfl := h0; obtain rfl := h1; exact (HQ.out ▸ HMo.out ▸ ddiv_ok _ _ _ _ _ (k0s.below hb) (k1s.below hb) HL.out HL2.out HY.out).mono fun e w3 h => RetSSE.pd h hb.size)) ?_
        refine And.intro (ob_move rfl (wt_none rfl) (ev_dep (j := 4) (by kernel_rfl) rfl rfl) (fun _ _ h => h)) ?_
        refine And.intro (ob_extract rfl (wt_none rfl) (ev_dep (j := 5) (by kernel_rfl) rfl rfl) (fun w2 u hu => by obtain ⟨v, u, rfl, q1, q2, q3, q4⟩ := hu; exact ⟨v, rfl, q1, q3⟩)) ?_
        refine And.intro (ob_extract rfl (wt_none rfl) (ev_dep (j := 5) (by kernel_rfl) rfl rfl) (fun w2 u hu => by obtain ⟨v, u, rfl, q1, q2, q3, q4⟩ := hu; exact ⟨u, rfl, q2, q4⟩)) ?_
        refine And.intro (ob_extract rfl (wt_none rfl) (ev_dep (j := 5) (by kernel_rfl) rfl rfl) (fun w2 u hu => by obtain ⟨v, u, rfl, q1, q2, q3, q4⟩ := hu; exact ⟨_, rfl, rfl⟩)) ?_
        refine And.intro (ob_assign rfl (wt_none rfl) (ev_dep (j := 6) (by kernel_rfl) rfl rfl) (fun _ _ h => h)) ?_
        refine And.intro (ob_assign rfl (wt_none rfl) (ev_dep (j := 7) (by kernel_rfl) rfl rfl) (fun _ _ h => h)) ?_
        refine And.intro (ob_assign rfl (wt_none rfl) (ev_dep (j := 8) (by kernel_rfl) rfl rfl) (fun _ _ h => h)) ?_
        trivial
      case done14 =>
        refine fun w1 hb1 v0 h0 v1 h1 v2 h2 v3 h3 v4 h4 v5 h5 v6 h6 v7 h7 v8 h8 v9 h9 v10 h10 v11 h11 b hbf => ?_
        obtain rfl := h0; obtain rfl := h1; obtain rfl := h2; obtain rfl := h3; obtain rfl := h8; obtain rfl := h11
        clear h4
        clear h5
        obtain ⟨q6, f6⟩ := h6
        obtain ⟨q7, f7⟩ := h7
        obtain ⟨q9, f9⟩ := h9
        obtain ⟨q10, f10⟩ := h10
        simp only [Act.put, List.setIfInBounds_toArray, List.set_cons_zero, List.set_cons_succ] at hbf
        subst hbf
        obtain ⟨A6, c6, rfl, _⟩ := id q9
        have kq := q9
        have kqf := f9
        obtain ⟨A7, c7, rfl, _⟩ := id q10
        have kr := q10
        have krf := f10
        replace B0 := B0.below hb1
        replace B1 := B1.below hb1
        replace B2 := B2.below hb1
        replace B3 := B3.below hb1
        replace k0s := k0s.below hb1
        replace k1s := k1s.below hb1
        replace k0 := k0.below hb1
        replace k1 := k1.below hb1
        replace bb := bb.trans (hb1.mono bb.size)
        have hszb := bb.size
        obtain ⟨x00, x01, y00, y01⟩ := Blk.two B0
        obtain ⟨x10, x11, y10, y11⟩ := Blk.two B1
        obtain ⟨x20, x21, y20, y21⟩ := Blk.two B2
        obtain ⟨x30, x31, y30, y31⟩ := Blk.two B3
        refine ops_done ?_
        have hmp : 0 < (digs 4294967296 M).length := len_pos hm0
        go_upto_region 5 with (fail)
        refine flowp 3 [Pd.eq (.slice A6 (digs 4294967296 Q).length c6), ps .u64 (digs 4294967296 1) w1.heap.size, ps .u64 (digs 4294967296 (Q + 1)) w1.heap.size] (by kernel_rfl) ?ob15 ?done15
        case ob15 =>
          refine And.intro (ob_move rfl (wt_none rfl) (ev_far rfl rfl) (fun _ _ h => h)) ?_
          refine And.intro (ob_call1 rfl Tryd.func51 (by kernel_rfl) (wt_none rfl) (ev_const _) (fun w2 u0 hb h0 => by obtain rfl := h0; exact (of_any _ 1 _ rfl (by omega)).mono fun e w3 h => RetS.pd h hb.size)) ?_
          refine And.intro (ob_call2 rfl Tryd.func43 (by kernel_rfl) (wt_none rfl) (ev_dep (j := 0) (by kernel_rfl) rfl rfl) (ev_dep (j := 1) (by kernel_rfl) rfl rfl) (fun w2 u0 u1 hb h0 h1 => by obtain rfl := h0; exact (add_any _ _ _ _ _ (kq.below hb) h1.1 _ rfl HQl.out).mono fun e w3 h => RetS.pd h hb.size)) ?_
          trivial
        case done15 =>
          refine fun w2 hb2 v0 h0 v1 h1 v2 h2 b hbf => ?_
          obtain rfl := h0
          obtain ⟨q1, f1⟩ := h1
          obtain ⟨q2, f2⟩ := h2
          simp only [Act.put, List.setIfInBounds_toArray, List.set_cons_zero, List.set_cons_succ] at hbf
          subst hbf
          obtain ⟨A5, c5, rfl, _⟩ := id q2
          have kp := q2
          have kpf := f2
          replace B0 := B0.below hb2
          replace B1 := B1.below hb2
          replace B2 := B2.below hb2
          replace B3 := B3.below hb2
          replace k0s := k0s.below hb2
          replace k1s := k1s.below hb2
          replace k0 := k0.below hb2
          replace k1 := k1.below hb2
          replace kq := kq.below hb2
          replace kr := kr.below hb2
          replace bb := bb.trans (hb2.mono bb.size)
          have bb1 : wx.heap.size ≤ w1.heap.size := hb1.size
          have hszb := bb.size
          obtain ⟨x00, x01, y00, y01⟩ := Blk.two B0
          obtain ⟨x10, x11, y10, y11⟩ := Blk.two B1
          obtain ⟨x20, x21, y20, y21⟩ := Blk.two B2
          obtain ⟨x30, x31, y30, y31⟩ := Blk.two B3
          refine ops_assign (i := 3) (.slice A5 (digs 4294967296 (Q + 1)).length c5) rfl rfl rfl rfl rfl fun b hbf => ?_
          simp only [Act.put, List.setIfInBounds_toArray, List.set_cons_zero, List.set_cons_succ] at hbf
          subst hbf
          refine ops_done ?_
          go_upto_region 6 with (fail)
          refine flowp 7 [Pd.eq (.pointer (some ⟨w.heap.size + 1, 1, none⟩)), Pd.eq (.slice A1 (digs 4294967296 (y).natAbs).length c1), Pd.eq (.slice A7 (digs 4294967296 M).length c7), pt .u64 (digs 4294967296 (y.natAbs - M)) 0 w2.heap.size, pt .u64 (digs 4294967296 (y.natAbs - M)) 0 w2.heap.size, ps .u64 (digs 4294967296 (y.natAbs - M)) w2.heap.size, Pd.eq (.int .i64 0)] (by kernel_rfl) ?ob16 ?done16
          case ob16 =>
            refine And.intro (ob_fieldAddr rfl (wt_none rfl) (ev_far rfl rfl) (fun _ => by kernel_rfl) (fun _ => rfl)) ?_
            refine And.intro (ob_load rfl (wt_none rfl) (ev_dep (j := 0) (by kernel_rfl) rfl rfl) (fun w2 hb => run_load1 Tryd.underlying23 rfl ((B1.below hb).cell 1)) (fun _ _ => rfl)) ?_
            refine And.intro (ob_move rfl (wt_none rfl) (ev_far rfl rfl) (fun _ _ h => h)) ?_
            refine And.intro (ob_call2 rfl Tryd.func58 (by kernel_rfl) (wt_none rfl) (ev_dep (j := 1) (by kernel_rfl) rfl rfl) (ev_dep (j := 2) (by kernel_rfl) rfl rfl) (fun w2 u0 u1 hb h0 h1 => by obtain rfl := h0; obtain rfl := h1; exact (sub_ok _ _ _ _ _ (k1s.below hb) (kr.below hb) (Nat.le_trans HL2.out (by decide)) HMl.out _ rfl).mono fun e w3 h => RetSI.pd h hb.size)) ?_
            refine And.intro (ob_move rfl (wt_none rfl) (ev_dep (j := 3) (by kernel_rfl) rfl rfl) (fun _ _ h => h)) ?_
            refine And.intro (ob_extract rfl (wt_none rfl) (ev_dep (j := 4) (by kernel_rfl) rfl rfl) (fun w2 u hu => by obtain ⟨v, rfl, q1, q2⟩ := hu; exact ⟨v, rfl, q1, q2⟩)) ?_
            refine And.intro (ob_extract rfl (wt_none rfl) (ev_dep (j := 4) (by kernel_rfl) rfl rfl) (fun w2 u hu => by obtain ⟨v, rfl, q1, q2⟩ := hu; exact ⟨_, rfl, rfl⟩)) ?_
            trivial
          case done16 =>
            refine fun w3 hb3 v0 h0 v1 h1 v2 h2 v3 h3 v4 h4 v5 h5 v6 h6 b hbf => ?_
            obtain rfl := h0; obtain rfl := h1; obtain rfl := h2; obtain rfl := h6
            clear h3
            clear h4
            obtain ⟨q5, f5⟩ := h5
            simp only [Act.put, List.setIfInBounds_toArray, List.set_cons_zero, List.set_cons_succ] at hbf
            subst hbf
            obtain ⟨A4, c4, rfl, _⟩ := id q5
            have ks := q5
            have ksf := f5
            replace B0 := B0.below hb3
            replace B1 := B1.below hb3
            replace B2 := B2.below hb3
            replace B3 := B3.below hb3
            replace k0s := k0s.below hb3
            replace k1s := k1s.below hb3
            replace k0 := k0.below hb3
            replace k1 := k1.below hb3
            replace kp := kp.below hb3
            replace bb := bb.trans (hb3.mono bb.size)
            have bb2 : wx.heap.size ≤ w2.heap.size := Nat.le_trans hb1.size hb2.size
            have hszb := bb.size
            obtain ⟨x00, x01, y00, y01⟩ := Blk.two B0
            obtain ⟨x10, x11, y10, y11⟩ := Blk.two B1
            obtain ⟨x20, x21, y20, y21⟩ := Blk.two B2
            obtain ⟨x30, x31, y30, y31⟩ := Blk.two B3
            refine ops_assign (i := 7) (.slice A4 (digs 4294967296 (y.natAbs - M)).length c4) rfl rfl rfl rfl rfl fun b hbf => ?_
            simp only [Act.put, List.setIfInBounds_toArray, List.set_cons_zero, List.set_cons_succ] at hbf
            subst hbf
            refine ops_done ?_
            go_upto_region 7 with (fail)
            refine flow 11 [Pd.eq (.pointer (some ⟨w.heap.size, 0, none⟩)), Pd.eq (.bool true), Pd.eq (.pointer (some ⟨w.heap.size + 1, 0, none⟩)), Pd.eq (.bool false), Pd.eq (.bool true), Pd.eq (.slice A5 (digs 4294967296 (Q + 1)).length c5), pz (x.fdiv y) wx.heap.size, Pd.eq (.pointer (some ⟨w.heap.size + 1, 0, none⟩)), Pd.eq (.bool false), Pd.eq (.slice A4 (digs 4294967296 (y.natAbs - M)).length c4), pz (x.fmod y) wx.heap.size] (by kernel_rfl) (by kernel_rfl) ?ob17 ?done17
            case ob17 =>
              refine And.intro (ob_fieldAddr rfl (wt_none rfl) (ev_far rfl rfl) (fun _ => by kernel_rfl) (fun _ => rfl)) ?_
              refine And.intro (ob_load rfl (wt_none rfl) (ev_dep (j := 0) (by kernel_rfl) rfl rfl) (fun w2 hb => run_load1 Tryd.underlying4 rfl ((B0.drew.below hb).cell 0)) (fun _ _ => rfl)) ?_
              refine And.intro (ob_fieldAddr rfl (wt_none rfl) (ev_far rfl rfl) (fun _ => by kernel_rfl) (fun _ => rfl)) ?_
              refine And.intro (ob_load rfl (wt_none rfl) (ev_dep (j := 2) (by kernel_rfl) rfl rfl) (fun w2 hb => run_load1 Tryd.underlying4 rfl ((B1.drew.below hb).cell 0)) (fun _ _ => rfl)) ?_
              refine And.intro (ob_bin rfl (wt_none rfl) (ev_dep (j := 1) (by kernel_rfl) rfl rfl) (ev_dep (j := 3) (by kernel_rfl) rfl rfl) (fun _ _ _ hx hy => ⟨.bool (!(true == false)), by rw [hx, hy]; exact bin_neq_bool _ _ _ _ Tryd.underlying4 _, rfl⟩)) ?_
              refine And.intro (ob_move rfl (wt_none rfl) (ev_far rfl rfl) (fun _ _ h => h)) ?_
              refine And.intro (ob_call2 rfl Tryd.func42 (by kernel_rfl) (wt_none rfl) (ev_dep (j := 4) (by kernel_rfl) rfl rfl) (ev_dep (j := 5) (by kernel_rfl) rfl rfl) (fun w2 u0 u1 hb h0 h1 => by obtain rfl := h0; obtain rfl := h1; exact signed_pd _ _ _ (x.fdiv y) _ (kp.drew.below hb) (kpf.mono bb1) HZ1.out)) ?_
              refine And.intro (ob_fieldAddr rfl (wt_none rfl) (ev_far rfl rfl) (fun _ => by kernel_rfl) (fun _ => rfl)) ?_
              refine And.intro (ob_load rfl (wt_none rfl) (ev_dep (j := 7) (by kernel_rfl) rfl rfl) (fun w2 hb => run_load1 Tryd.underlying4 rfl ((B1.drew.below hb).cell 0)) (fun _ _ => rfl)) ?_
              refine And.intro (ob_move rfl (wt_none rfl) (ev_far rfl rfl) (fun _ _ h => h)) ?_
              refine And.intro (ob_call2 rfl Tryd.func42 (by kernel_rfl) (wt_none rfl) (ev_dep (j := 8) (by kernel_rfl) rfl rfl) (ev_dep (j := 9) (by kernel_rfl) rfl rfl) (fun w2 u0 u1 hb h0 h1 => by obtain rfl := h0; obtain rfl := h1; exact signed_pd _ _ _ (x.fmod y) _ (ks.drew.below hb) (ksf.mono bb2) HZ2.out)) ?_
              trivial
            case done17 =>
              refine fun w7 hb7 v0 h0 v1 h1 v2 h2 v3 h3 v4 h4 v5 h5 v6 h6 v7 h7 v8 h8 v9 h9 v10 h10 b hbf => ?_
              obtain rfl := h0; obtain rfl := h1; obtain rfl := h2; obtain rfl := h3; obtain rfl := h4; obtain rfl := h5; obtain rfl := h7; obtain rfl := h8; obtain rfl := h9
              obtain ⟨q6, f6⟩ := h6
              obtain ⟨q10, f10⟩ := h10
              simp only [Act.put, List.setIfInBounds_toArray, List.set_cons_zero, List.set_cons_succ] at hbf
              subst hbf
              obtain ⟨u6, rfl, q6⟩ := q6
              obtain ⟨A9, c9, rfl, _⟩ := id q6
              obtain ⟨u10, rfl, q10⟩ := q10
              obtain ⟨A8, c8, rfl, _⟩ := id q10
              have B9 := B2.below hb7
              have B8 := B3.below hb7
              refine any_store (i := 11) (by kernel_rfl) rfl rfl rfl rfl rfl rfl (cells := [.bool (ngB (x.fdiv y)), .slice A9 (digs 4294967296 (x.fdiv y).natAbs).length c9]) rfl B9 rfl (by kernel_rfl) (one2 rfl rfl) fun w9 hg9 BB9 => ?_
              have k9 := off q6 B9 no_ints2 hg9
              have k8 := off q10 B9 no_ints2 hg9
              have B8' := B8.grown hg9 (by omega)
              have f9 := (f6 _ _ rfl).mono bb0
              have f8 := (f10 _ _ rfl).mono bb0
              have bb9 := ((bb.trans (hb7.mono bb.size)).trans ((Below.refl _ _).grown hg9 (Nat.le_trans bb.size hb7.size) (fun g hg => by injection hg with hg; omega)))
              refine any_store (i := 12) (by kernel_rfl) rfl rfl rfl rfl rfl rfl (cells := [.bool (ngB (x.fmod y)), .slice A8 (digs 4294967296 (x.fmod y).natAbs).length c8]) rfl B8' rfl (by kernel_rfl) (one2 rfl rfl) fun w8 hg8 BB8 => ?_
              have k9b := off k9 B8' no_ints2 hg8
              have k8b := off k8 B8' no_ints2 hg8
              have BB9' := Blk.grown BB9 hg8 (by omega)
              have bb8 := bb9.trans ((Below.refl _ _).grown hg8 bb9.size (fun g hg => by injection hg with hg; omega))
              obtain ⟨c0, c1, _, _⟩ := Blk.two BB9'
              obtain ⟨d0, d1, _, _⟩ := Blk.two BB8
              refine any_assign (i := 13) (.int .i64 0) (by kernel_rfl) rfl rfl rfl rfl rfl fun b hbf => ?_
              simp only [Act.put, List.setIfInBounds_toArray, List.set_cons_zero, List.set_cons_succ] at hbf
              subst hbf
              refine any_done (by kernel_rfl) ?_
              go_wp2
              exact bodyPost_ret (v := .tuple #[.agg #[.bool (ngB (x.fdiv y)), .slice A9 (digs 4294967296 (x.fdiv y).natAbs).length c9], .agg #[.bool (ngB (x.fmod y)), .slice A8 (digs 4294967296 (x.fmod y).natAbs).length c8], .int .i64 0]) (by simp [results, Tryd.results33, go_sem, c0, c1, d0, d1]) rfl ⟨_, _, rfl, isZ_mk k9b rfl rfl, isZ_mk k8b rfl rfl, freshZ_mk f9, freshZ_mk f8, bb8⟩
    · have HS := floor_same (x := x) hy (.inr (by rw [← hM]; omega))
      rw [← hQ, ← hM, hs0, hs1] at HS
      have HZ1 : Hid (sg true (Q) = x.fdiv y) := HS.1
      have HZ2 : Hid (sg false (M) = x.fmod y) := HS.2
      clear HS hQ hM hy
      obtain rfl : M = 0 := by omega
      clear hm0
      go_enter Tryd.func33, Tryd.ntmps33
      go_upto_region 1 with (fail)
      obtain ⟨wx, hwx, bb, B0, B1, B2, B3, hsz⟩ := vars4 w 25 25 25 25 #[.bool true, .slice A0 (digs 4294967296 (x).natAbs).length c0] #[.bool false, .slice A1 (digs 4294967296 (y).natAbs).length c1] #[.bool false, .slice none 0 0] #[.bool false, .slice none 0 0]
      rw [hwx]
      clear hwx
      have k0s := s0.below bb
      have k0 : IsZ wx (.agg #[.bool true, .slice A0 (digs 4294967296 (x).natAbs).length c0]) (x) := isZ_mk k0s rfl hs0.symm
      have k1s := s1.below bb
      have k1 : IsZ wx (.agg #[.bool false, .slice A1 (digs 4294967296 (y).natAbs).length c1]) (y) := isZ_mk k1s rfl hs1.symm
      have hszb := bb.size
      have bb0 := bb.size
      refine flowp 12 [Pd.eq (.pointer (some ⟨w.heap.size, 1, none⟩)), Pd.eq (.slice A0 (digs 4294967296 (x).natAbs).length c0), Pd.eq (.pointer (some ⟨w.heap.size + 1, 1, none⟩)), Pd.eq (.slice A1 (digs 4294967296 (y).natAbs).length c1), pt3 .u64 (digs 4294967296 Q) (digs 4294967296 0) 0 wx.heap.size, pt3 .u64 (digs 4294967296 Q) (digs 4294967296 0) 0 wx.heap.size, ps .u64 (digs 4294967296 Q) wx.heap.size, ps .u64 (digs 4294967296 0) wx.heap.size, Pd.eq (.int .i64 0), ps .u64 (digs 4294967296 Q) wx.heap.size, ps .u64 (digs 4294967296 0) wx.heap.size, Pd.eq (.int .i64 0)] (by kernel_rfl) ?ob18 ?done18
      case ob18 =>
        refine And.intro (ob_fieldAddr rfl (wt_none rfl) (ev_far rfl rfl) (fun _ => by kernel_rfl) (fun _ => rfl)) ?_
        refine And.intro (ob_load rfl (wt_none rfl) (ev_dep (j := 0) (by kernel_rfl) rfl rfl) (fun w2 hb => run_load1 Tryd.underlying23 rfl ((B0.below hb).cell 1)) (fun _ _ => rfl)) ?_
        refine And.intro (ob_fieldAddr rfl (wt_none rfl) (ev_far rfl rfl) (fun _ => by kernel_rfl) (fun _ => rfl)) ?_
        refine And.intro (ob_load rfl (wt_none rfl) (ev_dep (j := 2) (by kernel_rfl) rfl rfl) (fun w2 hb => run_load1 Tryd.underlying23 rfl ((B1.below hb).cell 1)) (fun _ _ => rfl)) ?_
        refine And.intro (ob_call2 rfl Tryd.func57 (by kernel_rfl) (wt_none rfl) (ev_dep (j := 1) (by kernel_rfl) rfl rfl) (ev_dep (j := 3) (by kernel_rfl) rfl rfl) (fun w2 u0 u1 hb h0 h1 => by obtain rfl := h0; obtain rfl := h1; exact (HQ.out ▸ HMo.out ▸ ddiv_ok _ _ _ _ _ (k0s.below hb) (k1s.below hb) HL.out HL2.out HY.out).mono fun e w3 h => RetSSE.pd h hb.size)) ?_
        refine And.intro (ob_move rfl (wt_none rfl) (ev_dep (j := 4) (by kernel_rfl) rfl rfl) (fun _ _ h => h)) ?_
        refine And.intro (ob_extract rfl (wt_none rfl) (ev_dep (j := 5) (by kernel_rfl) rfl rfl) (fun w2 u hu => by obtain ⟨v, u, rfl, q1, q2, q3, q4⟩ := hu; exact ⟨v, rfl, q1, q3⟩)) ?_
        refine And.intro (ob_extract rfl (wt_none rfl) (ev_dep (j := 5) (by kernel_rfl) rfl rfl) (fun w2 u hu => by obtain ⟨v, u, rfl, q1, q2, q3, q4⟩ := hu; exact ⟨u, rfl, q2, q4⟩)) ?_
        refine And.intro (ob_extract rfl (wt_none rfl) (ev_dep (j := 5) (by kernel_rfl) rfl rfl) (fun w2 u hu => by obtain ⟨v, u, rfl, q1, q2, q3, q4⟩ := hu; exact ⟨_, rfl, rfl⟩)) ?_
        refine And.intro (ob_assign rfl (wt_none rfl) (ev_dep (j := 6) (by kernel_rfl) rfl rfl) (fun _ _ h => h)) ?_
        refine And.intro (ob_assign rfl (wt_none rfl) (ev_dep (j := 7) (by kernel_rfl) rfl rfl) (fun _ _ h => h)) ?_
        refine And.intro (ob_assign rfl (wt_none rfl) (ev_dep (j := 8) (by kernel_rfl) rfl rfl) (fun _ _ h => h)) ?_
        trivial
      case done18 =>
        refine fun w1 hb1 v0 h0 v1 h1 v2 h2 v3 h3 v4 h4 v5 h5 v6 h6 v7 h7 v8 h8 v9 h9 v10 h10 v11 h11 b hbf => ?_
        obtain rfl := h0; obtain rfl := h1; obtain rfl := h2; obtain rfl := h3; obtain rfl := h8; obtain rfl := h11
        clear h4
        clear h5
        obtain ⟨q6, f6⟩ := h6
        obtain ⟨q7, f7⟩ := h7
        obtain ⟨q9, f9⟩ := h9
        obtain ⟨q10, f10⟩ := h10
        simp only [Act.put, List.setIfInBounds_toArray, List.set_cons_zero, List.set_cons_succ] at hbf
        subst hbf
        obtain ⟨A6, c6, rfl, _⟩ := id q9
        have kq := q9
        have kqf := f9
        obtain ⟨A7, c7, rfl, _⟩ := id q10
        have kr := q10
        have krf := f10
        replace B0 := B0.below hb1
        replace B1 := B1.below hb1
        replace B2 := B2.below hb1
        replace B3 := B3.below hb1
        replace k0s := k0s.below hb1
        replace k1s := k1s.below hb1
        replace k0 := k0.below hb1
        replace k1 := k1.below hb1
        replace bb := bb.trans (hb1.mono bb.size)
        have hszb := bb.size
        obtain ⟨x00, x01, y00, y01⟩ := Blk.two B0
        obtain ⟨x10, x11, y10, y11⟩ := Blk.two B1
        obtain ⟨x20, x21, y20, y21⟩ := Blk.two B2
        obtain ⟨x30, x31, y30, y31⟩ := Blk.two B3
        refine ops_done ?_
        have hmz : Hid ((digs 4294967296 0).length = 0) := by show _ = _; rw [digs_zero]; rfl
        rw [hmz.out] at kr krf ⊢
        go_upto_region 7 with (fail)
        refine flow 11 [Pd.eq (.pointer (some ⟨w.heap.size, 0, none⟩)), Pd.eq (.bool true), Pd.eq (.pointer (some ⟨w.heap.size + 1, 0, none⟩)), Pd.eq (.bool false), Pd.eq (.bool true), Pd.eq (.slice A6 (digs 4294967296 Q).length c6), pz (x.fdiv y) wx.heap.size, Pd.eq (.pointer (some ⟨w.heap.size + 1, 0, none⟩)), Pd.eq (.bool false), Pd.eq (.slice A7 0 c7), pz (x.fmod y) wx.heap.size] (by kernel_rfl) (by kernel_rfl) ?ob19 ?done19
        case ob19 =>
          refine And.intro (ob_fieldAddr rfl (wt_none rfl) (ev_far rfl rfl) (fun _ => by kernel_rfl) (fun _ => rfl)) ?_
          refine And.intro (ob_load rfl (wt_none rfl) (ev_dep (j := 0) (by kernel_rfl) rfl rfl) (fun w2 hb => run_load1 Tryd.underlying4 rfl ((B0.drew.below hb).cell 0)) (fun _ _ => rfl)) ?_
          refine And.intro (ob_fieldAddr rfl (wt_none rfl) (ev_far rfl rfl) (fun _ => by kernel_rfl) (fun _ => rfl)) ?_
          refine And.intro (ob_load rfl (wt_none rfl) (ev_dep (j := 2) (by kernel_rfl) rfl rfl) (fun w2 hb => run_load1 Tryd.underlying4 rfl ((B1.drew.below hb).cell 0)) (fun _ _ => rfl)) ?_
          refine And.intro (ob_bin rfl (wt_none rfl) (ev_dep (j := 1) (by kernel_rfl) rfl rfl) (ev_dep (j := 3) (by kernel_rfl) rfl rfl) (fun _ _ _ hx hy => ⟨.bool (!(true == false)), by rw [hx, hy]; exact bin_neq_bool _ _ _ _ Tryd.underlying4 _, rfl⟩)) ?_
          refine And.intro (ob_move rfl (wt_none rfl) (ev_far rfl rfl) (fun _ _ h => h)) ?_
          refine And.intro (ob_call2 rfl Tryd.func42 (by kernel_rfl) (wt_none rfl) (ev_dep (j := 4) (by kernel_rfl) rfl rfl) (ev_dep (j := 5) (by kernel_rfl) rfl rfl) (fun w2 u0 u1 hb h0 h1 => by obtain rfl := h0; obtain rfl := h1; exact signed_pd _ _ _ (x.fdiv y) _ (kq.drew.below hb) (kqf) HZ1.out)) ?_
          refine And.intro (ob_fieldAddr rfl (wt_none rfl) (ev_far rfl rfl) (fun _ => by kernel_rfl) (fun _ => rfl)) ?_
          refine And.intro (ob_load rfl (wt_none rfl) (ev_dep (j := 7) (by kernel_rfl) rfl rfl) (fun w2 hb => run_load1 Tryd.underlying4 rfl ((B1.drew.below hb).cell 0)) (fun _ _ => rfl)) ?_
          refine And.intro (ob_move rfl (wt_none rfl) (ev_far rfl rfl) (fun _ _ h => h)) ?_
          refine And.intro (ob_call2 rfl Tryd.func42 (by kernel_rfl) (wt_none rfl) (ev_dep (j := 8) (by kernel_rfl) rfl rfl) (ev_dep (j := 9) (by kernel_rfl) rfl rfl) (fun w2 u0 u1 hb h0 h1 => by obtain rfl := h0; obtain rfl := h1; exact signed_pd _ _ _ (x.fmod y) _ (kr.drew.below hb) (krf) HZ2.out)) ?_
          trivial
        case done19 =>
          refine fun w7 hb7 v0 h0 v1 h1 v2 h2 v3 h3 v4 h4 v5 h5 v6 h6 v7 h7 v8 h8 v9 h9 v10 h10 b hbf => ?_
          obtain rfl := h0; obtain rfl := h1; obtain rfl := h2; obtain rfl := h3; obtain rfl := h4; obtain rfl := h5; obtain rfl := h7; obtain rfl := h8; obtain rfl := h9
          obtain ⟨q6, f6⟩ := h6
          obtain ⟨q10, f10⟩ := h10
          simp only [Act.put, List.setIfInBounds_toArray, List.set_cons_zero, List.set_cons_succ] at hbf
          subst hbf
          obtain ⟨u6, rfl, q6⟩ := q6
          obtain ⟨A9, c9, rfl, _⟩ := id q6
          obtain ⟨u10, rfl, q10⟩ := q10
          obtain ⟨A8, c8, rfl, _⟩ := id q10
          have B9 := B2.below hb7
          have B8 := B3.below hb7
          refine any_store (i := 11) (by kernel_rfl) rfl rfl rfl rfl rfl rfl (cells := [.bool (ngB (x.fdiv y)), .slice A9 (digs 4294967296 (x.fdiv y).natAbs).length c9]) rfl B9 rfl (by kernel_rfl) (one2 rfl rfl) fun w9 hg9 BB9 => ?_
          have k9 := off q6 B9 no_ints2 hg9
          have k8 := off q10 B9 no_ints2 hg9
          have B8' := B8.grown hg9 (by omega)
          have f9 := (f6 _ _ rfl).mono bb0
          have f8 := (f10 _ _ rfl).mono bb0
          have bb9 := ((bb.trans (hb7.mono bb.size)).trans ((Below.refl _ _).grown hg9 (Nat.le_trans bb.size hb7.size) (fun g hg => by injection hg with hg; omega)))
          refine any_store (i := 12) (by kernel_rfl) rfl rfl rfl rfl rfl rfl (cells := [.bool (ngB (x.fmod y)), .slice A8 (digs 4294967296 (x.fmod y).natAbs).length c8]) rfl B8' rfl (by kernel_rfl) (one2 rfl rfl) fun w8 hg8 BB8 => ?_
          have k9b := off k9 B8' no_ints2 hg8
          have k8b := off k8 B8' no_ints2 hg8
          have BB9' := Blk.grown BB9 hg8 (by omega)
          have bb8 := bb9.trans ((Below.refl _ _).grown hg8 bb9.size (fun g hg => by injection hg with hg; omega))
          obtain ⟨c0, c1, _, _⟩ := Blk.two BB9'
          obtain ⟨d0, d1, _, _⟩ := Blk.two BB8
          refine any_assign (i := 13) (.int .i64 0) (by kernel_rfl) rfl rfl rfl rfl rfl fun b hbf => ?_
          simp only [Act.put, List.setIfInBounds_toArray, List.set_cons_zero, List.set_cons_succ] at hbf
          subst hbf
          refine any_done (by kernel_rfl) ?_
          go_wp2
          exact bodyPost_ret (v := .tuple #[.agg #[.bool (ngB (x.fdiv y)), .slice A9 (digs 4294967296 (x.fdiv y).natAbs).length c9], .agg #[.bool (ngB (x.fmod y)), .slice A8 (digs 4294967296 (x.fmod y).natAbs).length c8], .int .i64 0]) (by simp [results, Tryd.results33, go_sem, c0, c1, d0, d1]) rfl ⟨_, _, rfl, isZ_mk k9b rfl rfl, isZ_mk k8b rfl rfl, freshZ_mk f9, freshZ_mk f8, bb8⟩
  · have HS := floor_same hy (.inl (by rw [hs0, hs1]))
    rw [← hQ, ← hM, hs0, hs1] at HS
    have HZ1 : Hid (sg false (Q) = x.fdiv y) := HS.1
    have HZ2 : Hid (sg true (M) = x.fmod y) := HS.2
    clear HS hQ hM hy
    go_enter Tryd.func33, Tryd.ntmps33
    go_upto_region 1 with (fail)
    obtain ⟨wx, hwx, bb, B0, B1, B2, B3, hsz⟩ := vars4 w 25 25 25 25 #[.bool true, .slice A0 (digs 4294967296 (x).natAbs).length c0] #[.bool true, .slice A1 (digs 4294967296 (y).natAbs).length c1] #[.bool false, .slice none 0 0] #[.bool false, .slice none 0 0]
    rw [hwx]
    clear hwx
    have k0s := s0.below bb
    have k0 : IsZ wx (.agg #[.bool true, .slice A0 (digs 4294967296 (x).natAbs).length c0]) (x) := isZ_mk k0s rfl hs0.symm
    have k1s := s1.below bb
    have k1 : IsZ wx (.agg #[.bool true, .slice A1 (digs 4294967296 (y).natAbs).length c1]) (y) := isZ_mk k1s rfl hs1.symm
    have hszb := bb.size
    have bb0 := bb.size
    refine flowp 12 [Pd.eq (.pointer (some ⟨w.heap.size, 1, none⟩)), Pd.eq (.slice A0 (digs 4294967296 (x).natAbs).length c0), Pd.eq (.pointer (some ⟨w.heap.size + 1, 1, none⟩)), Pd.eq (.slice A1 (digs 4294967296 (y).natAbs).length c1), pt3 .u64 (digs 4294967296 Q) (digs 4294967296 M) 0 wx.heap.size, pt3 .u64 (digs 4294967296 Q) (digs 4294967296 M) 0 wx.heap.size, ps .u64 (digs 4294967296 Q) wx.heap.size, ps .u64 (digs 4294967296 M) wx.heap.size, Pd.eq (.int .i64 0), ps .u64 (digs 4294967296 Q) wx.heap.size, ps .u64 (digs 4294967296 M) wx.heap.size, Pd.eq (.int .i64 0)] (by kernel_rfl) ?ob20 ?done20
    case ob20 =>
      refine And.intro (ob_fieldAddr rfl (wt_none rfl) (ev_far rfl rfl) (fun _ => by kernel_rfl) (fun _ => rfl)) ?_
      refine And.intro (ob_load rfl (wt_none rfl) (ev_dep (j := 0) (by kernel_rfl) rfl rfl) (fun w2 hb => run_load1 Tryd.underlying23 rfl ((B0.below hb).cell 1)) (fun _ _ => rfl)) ?_
      refine And.intro (ob_fieldAddr rfl (wt_none rfl) (ev_far rfl rfl) (fun _ => by kernel_rfl) (fun _ => rfl)) ?_
      refine And.intro (ob_load rfl (wt_none rfl) (ev_dep (j := 2) (by kernel_rfl) rfl rfl) (fun w2 hb => run_load1 Tryd.underlying23 rfl ((B1.below hb).cell 1)) (fun _ _ => rfl)) ?_
      refine And.intro (ob_call2 rfl Tryd.func57 (by kernel_rfl) (wt_none rfl) (ev_dep (j := 1) (by kernel_rfl) rfl rfl) (ev_dep (j := 3) (by kernel_rfl) rfl rfl) (fun w2 u0 u1 hb h0 h1 => by obtain rfl := h0; obtain rfl := h1; exact (HQ.out ▸ HMo.out ▸ ddiv_ok _ _ _ _ _ (k0s.below hb) (k1s.below hb) HL.out HL2.out HY.out).mono fun e w3 h => RetSSE.pd h hb.size)) ?_
      refine And.intro (ob_move rfl (wt_none rfl) (ev_dep (j := 4) (by kernel_rfl) rfl rfl) (fun _ _ h => h)) ?_
      refine And.intro (ob_extract rfl (wt_none rfl) (ev_dep (j := 5) (by kernel_rfl) rfl rfl) (fun w2 u hu => by obtain ⟨v, u, rfl, q1, q2, q3, q4⟩ := hu; exact ⟨v, rfl, q1, q3⟩)) ?_
      refine And.intro (ob_extract rfl (wt_none rfl) (ev_dep (j := 5) (by kernel_rfl) rfl rfl) (fun w2 u hu => by obtain ⟨v, u, rfl, q1, q2, q3, q4⟩ := hu; exact ⟨u, rfl, q2, q4⟩)) ?_
      refine And.intro (ob_extract rfl (wt_none rfl) (ev_dep (j := 5) (by kernel_rfl) rfl rfl) (fun w2 u hu => by obtain ⟨v, u, rfl, q1, q2, q3, q4⟩ := hu; exact ⟨_, rfl, rfl⟩)) ?_
      refine And.intro (ob_assign rfl (wt_none rfl) (ev_dep (j := 6) (by kernel_rfl) rfl rfl) (fun _ _ h => h)) ?_
      refine And.intro (ob_assign rfl (wt_none rfl) (ev_dep (j := 7) (by kernel_rfl) rfl rfl) (fun _ _ h => h)) ?_
      refine And.intro (ob_assign rfl (wt_none rfl) (ev_dep (j := 8) (by kernel_rfl) rfl rfl) (fun _ _ h => h)) ?_
      trivial
    case done20 =>
      refine fun w1 hb1 v0 h0 v1 h1 v2 h2 v3 h3 v4 h4 v5 h5 v6 h6 v7 h7 v8 h8 v9 h9 v10 h10 v11 h11 b hbf => ?_
      obtain rfl := h0; obtain rfl := h1; obtain rfl := h2; obtain rfl := h3; obtain rfl := h8; obtain rfl := h11
      clear h4
      clear h5
      obtain ⟨q6, f6⟩ := h6
      obtain ⟨q7, f7⟩ := h7
      obtain ⟨q9, f9⟩ := h9
      obtain ⟨q10, f10⟩ := h10
      simp only [Act.put, List.setIfInBounds_toArray, List.set_cons_zero, List.set_cons_succ] at hbf
      subst hbf
      obtain ⟨A6, c6, rfl, _⟩ := id q9
      have kq := q9
      have kqf := f9
      obtain ⟨A7, c7, rfl, _⟩ := id q10
      have kr := q10
      have krf := f10
      replace B0 := B0.below hb1
      replace B1 := B1.below hb1
      replace B2 := B2.below hb1
      replace B3 := B3.below hb1
      replace k0s := k0s.below hb1
      replace k1s := k1s.below hb1
      replace k0 := k0.below hb1
      replace k1 := k1.below hb1
      replace bb := bb.trans (hb1.mono bb.size)
      have hszb := bb.size
      obtain ⟨x00, x01, y00, y01⟩ := Blk.two B0
      obtain ⟨x10, x11, y10, y11⟩ := Blk.two B1
      obtain ⟨x20, x21, y20, y21⟩ := Blk.two B2
      obtain ⟨x30, x31, y30, y31⟩ := Blk.two B3
      refine ops_done ?_
      go_upto_region 7 with (fail)
      refine flow 11 [Pd.eq (.pointer (some ⟨w.heap.size, 0, none⟩)), Pd.eq (.bool true), Pd.eq (.pointer (some ⟨w.heap.size + 1, 0, none⟩)), Pd.eq (.bool true), Pd.eq (.bool false), Pd.eq (.slice A6 (digs 4294967296 Q).length c6), pz (x.fdiv y) wx.heap.size, Pd.eq (.pointer (some ⟨w.heap.size + 1, 0, none⟩)), Pd.eq (.bool true), Pd.eq (.slice A7 (digs 4294967296 M).length c7), pz (x.fmod y) wx.heap.size] (by kernel_rfl) (by kernel_rfl) ?ob21 ?done21
      case ob21 =>
        refine And.intro (ob_fieldAddr rfl (wt_none rfl) (ev_far rfl rfl) (fun _ => by kernel_rfl) (fun _ => rfl)) ?_
        refine And.intro (ob_load rfl (wt_none rfl) (ev_dep (j := 0) (by kernel_rfl) rfl rfl) (fun w2 hb => run_load1 Tryd.underlying4 rfl ((B0.drew.below hb).cell 0)) (fun _ _ => rfl)) ?_
        refine And.intro (ob_fieldAddr rfl (wt_none rfl) (ev_far rfl rfl) (fun _ => by kernel_rfl) (fun _ => rfl)) ?_
        refine And.intro (ob_load rfl (wt_none rfl) (ev_dep (j := 2) (by kernel_rfl) rfl rfl) (fun w2 hb => run_load1 Tryd.underlying4 rfl ((B1.drew.below hb).cell 0)) (fun _ _ => rfl)) ?_
        refine And.intro (ob_bin rfl (wt_none rfl) (ev_dep (j := 1) (by kernel_rfl) rfl rfl) (ev_dep (j := 3) (by kernel_rfl) rfl rfl) (fun _ _ _ hx hy => ⟨.bool (!(true == true)), by rw [hx, hy]; exact bin_neq_bool _ _ _ _ Tryd.underlying4 _, rfl⟩)) ?_
        refine And.intro (ob_move rfl (wt_none rfl) (ev_far rfl rfl) (fun _ _ h => h)) ?_
        refine And.intro (ob_call2 rfl Tryd.func42 (by kernel_rfl) (wt_none rfl) (ev_dep (j := 4) (by kernel_rfl) rfl rfl) (ev_dep (j := 5) (by kernel_rfl) rfl rfl) (fun w2 u0 u1 hb h0 h1 => by obtain rfl := h0; obtain rfl := h1; exact signed_pd _ _ _ (x.fdiv y) _ (kq.drew.below hb) (kqf) HZ1.out)) ?_
        refine And.intro (ob_fieldAddr rfl (wt_none rfl) (ev_far rfl rfl) (fun _ => by kernel_rfl) (fun _ => rfl)) ?_
        refine And.intro (ob_load rfl (wt_none rfl) (ev_dep (j := 7) (by kernel_rfl) rfl rfl) (fun w2 hb => run_load1 Tryd.underlying4 rfl ((B1.drew.below hb).cell 0)) (fun _ _ => rfl)) ?_
        refine And.intro (ob_move rfl (wt_none rfl) (ev_far rfl rfl) (fun _ _ h => h)) ?_
        refine And.intro (ob_call2 rfl Tryd.func42 (by kernel_rfl) (wt_none rfl) (ev_dep (j := 8) (by kernel_rfl) rfl rfl) (ev_dep (j := 9) (by kernel_rfl) rfl rfl) (fun w2 u0 u1 hb h0 h1 => by obtain rfl := h0; obtain rfl := h1; exact signed_pd _ _ _ (x.fmod y) _ (kr.drew.below hb) (krf) HZ2.out)) ?_
        trivial
      case done21 =>
        refine fun w7 hb7 v0 h0 v1 h1 v2 h2 v3 h3 v4 h4 v5 h5 v6 h6 v7 h7 v8 h8 v9 h9 v10 h10 b hbf => ?_
        obtain rfl := h0; obtain rfl := h1; obtain rfl := h2; obtain rfl := h3; obtain rfl := h4; obtain rfl := h5; obtain rfl := h7; obtain rfl := h8; obtain rfl := h9
        obtain ⟨q6, f6⟩ := h6
        obtain ⟨q10, f10⟩ := h10
        simp only [Act.put, List.setIfInBounds_toArray, List.set_cons_zero, List.set_cons_succ] at hbf
        subst hbf
        obtain ⟨u6, rfl, q6⟩ := q6
        obtain ⟨A9, c9, rfl, _⟩ := id q6
        obtain ⟨u10, rfl, q10⟩ := q10
        obtain ⟨A8, c8, rfl, _⟩ := id q10
        have B9 := B2.below hb7
        have B8 := B3.below hb7
        refine any_store (i := 11) (by kernel_rfl) rfl rfl rfl rfl rfl rfl (cells := [.bool (ngB (x.fdiv y)), .slice A9 (digs 4294967296 (x.fdiv y).natAbs).length c9]) rfl B9 rfl (by kernel_rfl) (one2 rfl rfl) fun w9 hg9 BB9 => ?_
        have k9 := off q6 B9 no_ints2 hg9
        have k8 := off q10 B9 no_ints2 hg9
        have B8' := B8.grown hg9 (by omega)
        have f9 := (f6 _ _ rfl).mono bb0
        have f8 := (f10 _ _ rfl).mono bb0
        have bb9 := ((bb.trans (hb7.mono bb.size)).trans ((Below.refl _ _).grown hg9 (Nat.le_trans bb.size hb7.size) (fun g hg => by injection hg with hg; omega)))
        refine any_store (i := 12) (by kernel_rfl) rfl rfl rfl rfl rfl rfl (cells := [.bool (ngB (x.fmod y)), .slice A8 (digs 4294967296 (x.fmod y).natAbs).length c8]) rfl B8' rfl (by kernel_rfl) (one2 rfl rfl) fun w8 hg8 BB8 => ?_
        have k9b := off k9 B8' no_ints2 hg8
        have k8b := off k8 B8' no_ints2 hg8
        have BB9' := Blk.grown BB9 hg8 (by omega)
        have bb8 := bb9.trans ((Below.refl _ _).grown hg8 bb9.size (fun g hg => by injection hg with hg; omega))
        obtain ⟨c0, c1, _, _⟩ := Blk.two BB9'
        obtain ⟨d0, d1, _, _⟩ := Blk.two BB8
        refine any_assign (i := 13) (.int .i64 0) (by kernel_rfl) rfl rfl rfl rfl rfl fun b hbf => ?_
        simp only [Act.put, List.setIfInBounds_toArray, List.set_cons_zero, List.set_cons_succ] at hbf
        subst hbf
        refine any_done (by kernel_rfl) ?_
        go_wp2
        exact bodyPost_ret (v := .tuple #[.agg #[.bool (ngB (x.fdiv y)), .slice A9 (digs 4294967296 (x.fdiv y).natAbs).length c9], .agg #[.bool (ngB (x.fmod y)), .slice A8 (digs 4294967296 (x.fmod y).natAbs).length c8], .int .i64 0]) (by simp [results, Tryd.results33, go_sem, c0, c1, d0, d1]) rfl ⟨_, _, rfl, isZ_mk k9b rfl rfl, isZ_mk k8b rfl rfl, freshZ_mk f9, freshZ_mk f8, bb8⟩
end Go.Proofs.YtcmjbkgcknimlaaDoor.whl
