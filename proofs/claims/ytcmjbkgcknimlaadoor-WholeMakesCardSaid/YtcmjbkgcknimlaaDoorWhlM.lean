/- Package whole and the document's whole numbers: the calls. Condition: as each says. -/
import Derived.Test.YtcmjbkgcknimlaaDoorWhlL
import Derived.Deep.Cut
namespace Go.Proofs.YtcmjbkgcknimlaaDoor.whl
open Go.RowKit Go.Proofs.YtcmjbkgcknimlaaDoor.num Go.Proofs.YtcmjbkgcknimlaaDoor.mem Go.Proofs.YtcmjbkgcknimlaaDoor.nat Go.Proofs.YtcmjbkgcknimlaaDoor.txt Go.Proofs.YtcmjbkgcknimlaaDoor.str Go.Proofs.YtcmjbkgcknimlaaDoor.flow
set_option linter.unusedVariables false
theorem fmod_zero {x y : Int} (hy : y ≠ 0) : x.fmod y = 0 ↔ x.natAbs % y.natAbs = 0 := by
  have hlt := Nat.mod_lt x.natAbs (show 0 < y.natAbs by omega)
  have key : (x.fmod y).natAbs = 0 ↔ x.natAbs % y.natAbs = 0 := by
    by_cases hs : ngB x = ngB y ∨ x.natAbs % y.natAbs = 0
    · obtain ⟨_, h3⟩ := floor_same hy hs
      rw [← h3, sg_abs]
    · have hp : 0 < x.natAbs % y.natAbs := by rcases Nat.eq_zero_or_pos (x.natAbs % y.natAbs) with h | h; exact absurd (Or.inr h) hs; exact h
      obtain ⟨_, h3⟩ := floor_off hy (fun h => hs (.inl h)) hp
      rw [← h3, sg_abs]
      omega
  constructor
  · intro h; exact key.1 (by rw [h]; rfl)
  · intro h; have := key.2 h; omega
set_option maxHeartbeats 6400000 in
set_option maxRecDepth 100000 in
theorem rfloor_any (a0 : Value) (x : Int) (a1 : Value) (y : Int) (w : World) (h0 : IsR w a0 x) (h1 : IsR w a1 y) (hl : lenZ x ≤ 10000) (hl2 : lenZ y ≤ 10000) (hy : y ≠ 0) :
    Calls Tryd.prog 35 #[a0, a1] w (RetRR (x.fdiv y) (x.fmod y) w) := by
  obtain ⟨u0, rfl, s0⟩ := h0
  obtain ⟨A0, c0, rfl, _⟩ := id s0
  obtain ⟨u1, rfl, s1⟩ := h1
  obtain ⟨A1, c1, rfl, _⟩ := id s1
  have HL : Hid ((digs 10000 x.natAbs).length ≤ 100000) := Nat.le_trans (lenZ_dec x) (by omega)
  have HL2 : Hid ((digs 10000 y.natAbs).length ≤ 100000) := Nat.le_trans (lenZ_dec y) (by omega)
  have lq : lenZ (x.fdiv y) ≤ 10000 := lenZ_fdiv_le hy hl
  have lqy : lenZ (x.fdiv y * y) ≤ 20000 := lenZ_mul_le lq hl2
  obtain ⟨Q, hQ⟩ : ∃ Q, Q = x.natAbs / y.natAbs := ⟨_, rfl⟩
  obtain ⟨M, hM⟩ : ∃ M, M = x.natAbs % y.natAbs := ⟨_, rfl⟩
  have HQ := Lib.hid hQ.symm
  have HMo := Lib.hid hM.symm
  have HY : Hid (0 < y.natAbs) := by show 0 < _; omega
  have HQl : Hid ((digs 10000 Q).length ≤ 1000000) := by
    show _ ≤ _
    have h2 : (digs 10000 Q).length ≤ (digs 10000 x.natAbs).length := by (rw [hQ]; exact dec_div _ _)
    have := HL.out; omega
  have HFM : Hid (x - x.fdiv y * y = x.fmod y) := by show _ = _; have := Int.mul_fdiv_add_fmod x y; rw [Int.mul_comm] at this; omega
  rcases hs0 : ngB x with _ | _ <;> rcases hs1 : ngB y with _ | _
  · have HS := (floor_same hy (.inl (by rw [hs0, hs1]))).1
    rw [← hQ, hs0, hs1] at HS
    have HZ1 : Hid (sg false (Q) = x.fdiv y) := HS
    clear HS hQ hM hy
    go_enter Tryd.func35, Tryd.ntmps35
    go_upto_region 1 with (fail)
    obtain ⟨wx, hwx, bb, B0, B1, B2, B3, hsz⟩ := vars4 w 30 30 30 30 #[.bool false, .slice A0 (digs 10000 (x).natAbs).length c0] #[.bool false, .slice A1 (digs 10000 (y).natAbs).length c1] #[.bool false, .slice none 0 0] #[.bool false, .slice none 0 0]
    rw [hwx]
    clear hwx
    have k0s := s0.below bb
    have k0 : IsR wx (.agg #[.bool false, .slice A0 (digs 10000 (x).natAbs).length c0]) (x) := isR_mk k0s rfl hs0.symm
    have k1s := s1.below bb
    have k1 : IsR wx (.agg #[.bool false, .slice A1 (digs 10000 (y).natAbs).length c1]) (y) := isR_mk k1s rfl hs1.symm
    have hszb := bb.size
    refine flowp 10 [Pd.eq (.pointer (some ⟨w.heap.size, 1, none⟩)), Pd.eq (.slice A0 (digs 10000 (x).natAbs).length c0), Pd.eq (.pointer (some ⟨w.heap.size + 1, 1, none⟩)), Pd.eq (.slice A1 (digs 10000 (y).natAbs).length c1), pt2 .i64 (digs 10000 Q) (digs 10000 M) wx.heap.size, pt2 .i64 (digs 10000 Q) (digs 10000 M) wx.heap.size, ps .i64 (digs 10000 Q) wx.heap.size, ps .i64 (digs 10000 M) wx.heap.size, ps .i64 (digs 10000 Q) wx.heap.size, ps .i64 (digs 10000 M) wx.heap.size] (by kernel_rfl) ?ob1 ?done1
    case ob1 =>
      refine And.intro (ob_fieldAddr rfl (wt_none rfl) (ev_far rfl rfl) (fun _ => by kernel_rfl) (fun _ => rfl)) ?_
      refine And.intro (ob_load rfl (wt_none rfl) (ev_dep (j := 0) (by kernel_rfl) rfl rfl) (fun w2 hb => run_load1 Tryd.underlying28 rfl ((B0.below hb).cell 1)) (fun _ _ => rfl)) ?_
      refine And.intro (ob_fieldAddr rfl (wt_none rfl) (ev_far rfl rfl) (fun _ => by kernel_rfl) (fun _ => rfl)) ?_
      refine And.intro (ob_load rfl (wt_none rfl) (ev_dep (j := 2) (by kernel_rfl) rfl rfl) (fun w2 hb => run_load1 Tryd.underlying28 rfl ((B1.below hb).cell 1)) (fun _ _ => rfl)) ?_
      refine And.intro (ob_call2 rfl Tryd.func60 (by kernel_rfl) (wt_none rfl) (ev_dep (j := 1) (by kernel_rfl) rfl rfl) (ev_dep (j := 3) (by kernel_rfl) rfl rfl) (fun w2 u0 u1 hb h0 h1 => by obtain rfl := h0; obtain rfl := h1; exact (HQ.out ▸ HMo.out ▸ refDiv_any _ _ _ _ _ (k0s.below hb) (k1s.below hb) HL.out HL2.out HY.out).mono fun e w3 h => RetSS.pd h hb.size)) ?_
      refine And.intro (ob_move rfl (wt_none rfl) (ev_dep (j := 4) (by kernel_rfl) rfl rfl) (fun _ _ h => h)) ?_
      refine And.intro (ob_extract rfl (wt_none rfl) (ev_dep (j := 5) (by kernel_rfl) rfl rfl) (fun w2 u hu => by obtain ⟨v, u, rfl, q1, q2, q3, q4⟩ := hu; exact ⟨v, rfl, q1, q3⟩)) ?_
      refine And.intro (ob_extract rfl (wt_none rfl) (ev_dep (j := 5) (by kernel_rfl) rfl rfl) (fun w2 u hu => by obtain ⟨v, u, rfl, q1, q2, q3, q4⟩ := hu; exact ⟨u, rfl, q2, q4⟩)) ?_
      refine And.intro (ob_assign rfl (wt_none rfl) (ev_dep (j := 6) (by kernel_rfl) rfl rfl) (fun _ _ h => h)) ?_
      refine And.intro (ob_assign rfl (wt_none rfl) (ev_dep (j := 7) (by kernel_rfl) rfl rfl) (fun _ _ h => h)) ?_
      trivial
    case done1 =>
      refine fun w1 hb1 v0 h0 v1 h1 v2 h2 v3 h3 v4 h4 v5 h5 v6 h6 v7 h7 v8 h8 v9 h9 b hbf => ?_
      obtain rfl := h0; obtain rfl := h1; obtain rfl := h2; obtain rfl := h3
      clear h4
      clear h5
      obtain ⟨q6, f6⟩ := h6
      obtain ⟨q7, f7⟩ := h7
      obtain ⟨q8, f8⟩ := h8
      obtain ⟨q9, f9⟩ := h9
      simp only [Act.put, List.setIfInBounds_toArray, List.set_cons_zero, List.set_cons_succ] at hbf
      subst hbf
      replace B0 := B0.below hb1
      replace B1 := B1.below hb1
      replace B2 := B2.below hb1
      replace B3 := B3.below hb1
      replace k0s := k0s.below hb1
      replace k1s := k1s.below hb1
      replace k0 := k0.below hb1
      replace k1 := k1.below hb1
      replace bb := bb.trans (hb1.mono bb.size)
      have hsz1 := bb.size
      obtain ⟨A6, c6, rfl, _⟩ := id q8
      have kq := q8
      have kqf := f8
      obtain ⟨A7, c7, rfl, _⟩ := id q9
      have kr := q9
      have krf := f9
      refine ops_done ?_
      obtain ⟨x00, x01, _, _⟩ := Blk.two B0
      obtain ⟨x10, x11, _, _⟩ := Blk.two B1
      go_upto_region 4 with (fail)
      have lt1_2 := Blk.lt B0
      have lt1_3 := Blk.lt B1
      have lt1_4 := Blk.lt B2
      have lt1_5 := Blk.lt B3
      refine flowp 8 [Pd.eq (.pointer (some ⟨w.heap.size, 0, none⟩)), Pd.eq (.bool false), Pd.eq (.pointer (some ⟨w.heap.size + 1, 0, none⟩)), Pd.eq (.bool false), Pd.eq (.bool false), Pd.eq (.slice A6 (digs 10000 Q).length c6), pr ((x.fdiv y)), pn 30 #[.bool false, .slice none 0 0] w1.heap.size] (by kernel_rfl) ?ob2 ?done2
      case ob2 =>
        refine And.intro (ob_fieldAddr rfl (wt_none rfl) (ev_far rfl rfl) (fun _ => by kernel_rfl) (fun _ => rfl)) ?_
        refine And.intro (ob_load rfl (wt_none rfl) (ev_dep (j := 0) (by kernel_rfl) rfl rfl) (fun w2 hb => run_load1 Tryd.underlying4 rfl ((B0.below hb).cell 0)) (fun _ _ => rfl)) ?_
        refine And.intro (ob_fieldAddr rfl (wt_none rfl) (ev_far rfl rfl) (fun _ => by kernel_rfl) (fun _ => rfl)) ?_
        refine And.intro (ob_load rfl (wt_none rfl) (ev_dep (j := 2) (by kernel_rfl) rfl rfl) (fun w2 hb => run_load1 Tryd.underlying4 rfl ((B1.below hb).cell 0)) (fun _ _ => rfl)) ?_
        refine And.intro (ob_bin rfl (wt_none rfl) (ev_dep (j := 1) (by kernel_rfl) rfl rfl) (ev_dep (j := 3) (by kernel_rfl) rfl rfl) (fun _ _ _ hx hy => ⟨.bool (!(false == false)), by rw [hx, hy]; exact bin_neq_bool _ _ _ _ Tryd.underlying4 _, rfl⟩)) ?_
        refine And.intro (ob_move rfl (wt_none rfl) (ev_far rfl rfl) (fun _ _ h => h)) ?_
        refine And.intro (ob_call2 rfl Tryd.func40 (by kernel_rfl) (wt_none rfl) (ev_dep (j := 4) (by kernel_rfl) rfl rfl) (ev_dep (j := 5) (by kernel_rfl) rfl rfl) (fun w2 u0 u1 hb h0 h1 => by obtain rfl := h0; obtain rfl := h1; exact made_pd _ _ _ (x.fdiv y) _ (kq.below hb) HZ1.out)) ?_
        refine And.intro (ob_alloc (z := .agg #[.bool false, .slice none 0 0]) rfl rfl (fun _ => by kernel_rfl) (fun _ _ hB h => ⟨_, rfl, hB, h⟩)) ?_
        trivial
      case done2 =>
        refine fun w2 hb2 v0 h0 v1 h1 v2 h2 v3 h3 v4 h4 v5 h5 v6 h6 v7 h7 d7 b hbf => ?_
        obtain rfl := h0; obtain rfl := h1; obtain rfl := h2; obtain rfl := h3; obtain rfl := h4; obtain rfl := h5
        have q6 := h6
        obtain ⟨g7, rfl, hg7, B7⟩ := h7
        simp only [Act.put, List.setIfInBounds_toArray, List.set_cons_zero, List.set_cons_succ] at hbf
        subst hbf
        replace B0 := B0.below hb2
        replace B1 := B1.below hb2
        replace B2 := B2.below hb2
        replace B3 := B3.below hb2
        replace k0s := k0s.below hb2
        replace k1s := k1s.below hb2
        replace k0 := k0.below hb2
        replace k1 := k1.below hb2
        replace kq := kq.below hb2
        replace bb := bb.trans (hb2.mono bb.size)
        have hsz2 := bb.size
        have BA8 := B7
        obtain ⟨u6, rfl, q6⟩ := q6
        obtain ⟨A8, c8, rfl, _⟩ := id q6
        refine ops_store (i := 8) rfl rfl rfl rfl rfl rfl (cells := [.bool (ngB (x.fdiv y)), .slice A8 (digs 10000 ((x.fdiv y)).natAbs).length c8]) rfl BA8 rfl (by kernel_rfl) (one2 rfl rfl) fun w3 hg3 BN3 => ?_
        replace q6 := off q6 BA8 no_ints2 hg3
        replace k0s := off k0s BA8 no_ints2 hg3
        replace k0 : IsR w3 (.agg #[.bool false, .slice A0 (digs 10000 (x).natAbs).length c0]) (x) := isR_mk k0s rfl hs0.symm
        replace B0 := B0.grown hg3 (by omega)
        replace k1s := off k1s BA8 no_ints2 hg3
        replace k1 : IsR w3 (.agg #[.bool false, .slice A1 (digs 10000 (y).natAbs).length c1]) (y) := isR_mk k1s rfl hs1.symm
        replace B1 := B1.grown hg3 (by omega)
        replace B2 := B2.grown hg3 (by omega)
        replace B3 := B3.grown hg3 (by omega)
        replace bb := bb.trans ((Below.refl _ _).grown hg3 bb.size (fun g hg => by injection hg with hg; omega))
        have hsz3 := bb.size
        have Bq : Blk w3 (g7) _ _ := BN3
        have kqs := q6
        have kq : IsR w3 (.agg #[.bool (ngB (x.fdiv y)), .slice A8 (digs 10000 ((x.fdiv y)).natAbs).length c8]) ((x.fdiv y)) := ⟨_, rfl, kqs⟩
        refine ops_done ?_
        go_upto_region 5 with (fail)
        refine flow 6 [Pd.eq (.agg #[.bool (ngB (x.fdiv y)), .slice A8 (digs 10000 ((x.fdiv y)).natAbs).length c8]), Pd.eq (.agg #[.bool false, .slice A0 (digs 10000 (x).natAbs).length c0]), Pd.eq (.agg #[.bool (ngB (x.fdiv y)), .slice A8 (digs 10000 ((x.fdiv y)).natAbs).length c8]), Pd.eq (.agg #[.bool false, .slice A1 (digs 10000 (y).natAbs).length c1]), pr ((x.fdiv y * y)), pr ((x.fmod y))] (by kernel_rfl) (by kernel_rfl) ?ob3 ?done3
        case ob3 =>
          refine And.intro (ob_load rfl (wt_none rfl) (ev_far rfl rfl) (fun w2 hb => run_loadAll Tryd.underlying30 rfl (by kernel_rfl) (Bq.drew.below hb)) (fun _ _ => rfl)) ?_
          refine And.intro (ob_load rfl (wt_none rfl) (ev_far rfl rfl) (fun w2 hb => run_loadAll Tryd.underlying30 rfl (by kernel_rfl) (B0.drew.below hb)) (fun _ _ => rfl)) ?_
          refine And.intro (ob_load rfl (wt_none rfl) (ev_far rfl rfl) (fun w2 hb => run_loadAll Tryd.underlying30 rfl (by kernel_rfl) (Bq.drew.below hb)) (fun _ _ => rfl)) ?_
          refine And.intro (ob_load rfl (wt_none rfl) (ev_far rfl rfl) (fun w2 hb => run_loadAll Tryd.underlying30 rfl (by kernel_rfl) (B1.drew.below hb)) (fun _ _ => rfl)) ?_
          refine And.intro (ob_call2 rfl Tryd.func17 (by kernel_rfl) (wt_none rfl) (ev_dep (j := 2) (by kernel_rfl) rfl rfl) (ev_dep (j := 3) (by kernel_rfl) rfl rfl) (fun w2 u0 u1 hb h0 h1 => by obtain rfl := h0; obtain rfl := h1; exact (rmul_any _ _ _ _ _ (kq.drew.below hb) (k1.drew.below hb) (Nat.le_trans lq (by decide)) (Nat.le_trans hl2 (by decide))).mono fun e w3 h => RetR.pd h)) ?_
          refine And.intro (ob_call2 rfl Tryd.func15 (by kernel_rfl) (wt_none rfl) (ev_dep (j := 1) (by kernel_rfl) rfl rfl) (ev_dep (j := 4) (by kernel_rfl) rfl rfl) (fun w2 u0 u1 hb h0 h1 => by obtain rfl := h0; exact (HFM.out ▸ rsub_any _ _ _ _ _ (k0.drew.below hb) h1 (Nat.le_trans hl (by decide)) lqy).mono fun e w3 h => RetR.pd h)) ?_
          trivial
        case done3 =>
          refine fun w4 hb4 v0 h0 v1 h1 v2 h2 v3 h3 v4 h4 v5 h5 b hbf => ?_
          obtain rfl := h0; obtain rfl := h1; obtain rfl := h2; obtain rfl := h3
          have q4 := h4
          have q5 := h5
          simp only [Act.put, List.setIfInBounds_toArray, List.set_cons_zero, List.set_cons_succ] at hbf
          subst hbf
          replace B0 := B0.below hb4
          replace B1 := B1.below hb4
          replace B2 := B2.below hb4
          replace B3 := B3.below hb4
          replace Bq := Bq.below hb4
          replace k0s := k0s.below hb4
          replace k1s := k1s.below hb4
          replace kqs := kqs.below hb4
          replace k0 := k0.below hb4
          replace k1 := k1.below hb4
          replace kq := kq.below hb4
          replace bb := bb.trans (hb4.mono bb.size)
          have hsz4 := bb.size
          have q0 := kqs
          obtain ⟨u5, rfl, q5⟩ := q5
          obtain ⟨A9, c9, rfl, _⟩ := id q5
          refine any_store (i := 6) (by kernel_rfl) rfl rfl rfl rfl rfl rfl (cells := [.bool (ngB (x.fdiv y)), .slice A8 (digs 10000 ((x.fdiv y)).natAbs).length c8]) rfl B2 rfl (by kernel_rfl) (one2 rfl rfl) fun w5 hg5 BN5 => ?_
          replace q5 := off q5 B2 no_ints2 hg5
          replace q0 := off q0 B2 no_ints2 hg5
          replace k0s := off k0s B2 no_ints2 hg5
          replace k0 : IsR w5 (.agg #[.bool false, .slice A0 (digs 10000 (x).natAbs).length c0]) (x) := isR_mk k0s rfl hs0.symm
          replace B0 := B0.grown hg5 (by omega)
          replace k1s := off k1s B2 no_ints2 hg5
          replace k1 : IsR w5 (.agg #[.bool false, .slice A1 (digs 10000 (y).natAbs).length c1]) (y) := isR_mk k1s rfl hs1.symm
          replace B1 := B1.grown hg5 (by omega)
          replace B3 := B3.grown hg5 (by omega)
          replace kqs := off kqs B2 no_ints2 hg5
          replace kq : IsR w5 (.agg #[.bool (ngB (x.fdiv y)), .slice A8 (digs 10000 ((x.fdiv y)).natAbs).length c8]) ((x.fdiv y)) := ⟨_, rfl, kqs⟩
          replace Bq := Bq.grown hg5 (by omega)
          replace bb := bb.trans ((Below.refl _ _).grown hg5 bb.size (fun g hg => by injection hg with hg; omega))
          have hsz5 := bb.size
          have Br1 : Blk w5 (w.heap.size + 1 + 1) _ _ := BN5
          have kr1s := q0
          have kr1 : IsR w5 (.agg #[.bool (ngB (x.fdiv y)), .slice A8 (digs 10000 ((x.fdiv y)).natAbs).length c8]) ((x.fdiv y)) := ⟨_, rfl, kr1s⟩
          refine any_store (i := 7) (by kernel_rfl) rfl rfl rfl rfl rfl rfl (cells := [.bool (ngB (x.fmod y)), .slice A9 (digs 10000 ((x.fmod y)).natAbs).length c9]) rfl B3 rfl (by kernel_rfl) (one2 rfl rfl) fun w6 hg6 BN6 => ?_
          replace q5 := off q5 B3 no_ints2 hg6
          replace k0s := off k0s B3 no_ints2 hg6
          replace k0 : IsR w6 (.agg #[.bool false, .slice A0 (digs 10000 (x).natAbs).length c0]) (x) := isR_mk k0s rfl hs0.symm
          replace B0 := B0.grown hg6 (by omega)
          replace k1s := off k1s B3 no_ints2 hg6
          replace k1 : IsR w6 (.agg #[.bool false, .slice A1 (digs 10000 (y).natAbs).length c1]) (y) := isR_mk k1s rfl hs1.symm
          replace B1 := B1.grown hg6 (by omega)
          replace kr1s := off kr1s B3 no_ints2 hg6
          replace kr1 : IsR w6 (.agg #[.bool (ngB (x.fdiv y)), .slice A8 (digs 10000 ((x.fdiv y)).natAbs).length c8]) ((x.fdiv y)) := ⟨_, rfl, kr1s⟩
          replace Br1 := Br1.grown hg6 (by omega)
          replace kqs := off kqs B3 no_ints2 hg6
          replace kq : IsR w6 (.agg #[.bool (ngB (x.fdiv y)), .slice A8 (digs 10000 ((x.fdiv y)).natAbs).length c8]) ((x.fdiv y)) := ⟨_, rfl, kqs⟩
          replace Bq := Bq.grown hg6 (by omega)
          replace bb := bb.trans ((Below.refl _ _).grown hg6 bb.size (fun g hg => by injection hg with hg; omega))
          have hsz6 := bb.size
          have Br2 : Blk w6 (w.heap.size + 1 + 1 + 1) _ _ := BN6
          have kr2s := q5
          have kr2 : IsR w6 (.agg #[.bool (ngB (x.fmod y)), .slice A9 (digs 10000 ((x.fmod y)).natAbs).length c9]) ((x.fmod y)) := ⟨_, rfl, kr2s⟩
          refine any_done (by kernel_rfl) ?_
          obtain ⟨y00, y01, _, _⟩ := Blk.two Br1
          obtain ⟨y10, y11, _, _⟩ := Blk.two Br2
          go_wp2
          exact bodyPost_ret (v := .tuple #[.agg #[.bool (ngB (x.fdiv y)), .slice A8 (digs 10000 ((x.fdiv y)).natAbs).length c8], .agg #[.bool (ngB (x.fmod y)), .slice A9 (digs 10000 ((x.fmod y)).natAbs).length c9]]) (by simp [results, Tryd.results35, go_sem, y00, y01, y10, y11]) rfl ⟨_, _, rfl, kr1, kr2, bb⟩
  · by_cases hm0 : 0 < M
    · have HS := (floor_off hy (by rw [hs0, hs1]; simp) (by rw [← hM]; exact hm0)).1
      rw [← hQ] at HS
      have HZ1 : Hid (sg true (Q + 1) = x.fdiv y) := HS
      clear HS hQ hM hy
      go_enter Tryd.func35, Tryd.ntmps35
      go_upto_region 1 with (fail)
      obtain ⟨wx, hwx, bb, B0, B1, B2, B3, hsz⟩ := vars4 w 30 30 30 30 #[.bool false, .slice A0 (digs 10000 (x).natAbs).length c0] #[.bool true, .slice A1 (digs 10000 (y).natAbs).length c1] #[.bool false, .slice none 0 0] #[.bool false, .slice none 0 0]
      rw [hwx]
      clear hwx
      have k0s := s0.below bb
      have k0 : IsR wx (.agg #[.bool false, .slice A0 (digs 10000 (x).natAbs).length c0]) (x) := isR_mk k0s rfl hs0.symm
      have k1s := s1.below bb
      have k1 : IsR wx (.agg #[.bool true, .slice A1 (digs 10000 (y).natAbs).length c1]) (y) := isR_mk k1s rfl hs1.symm
      have hszb := bb.size
      refine flowp 10 [Pd.eq (.pointer (some ⟨w.heap.size, 1, none⟩)), Pd.eq (.slice A0 (digs 10000 (x).natAbs).length c0), Pd.eq (.pointer (some ⟨w.heap.size + 1, 1, none⟩)), Pd.eq (.slice A1 (digs 10000 (y).natAbs).length c1), pt2 .i64 (digs 10000 Q) (digs 10000 M) wx.heap.size, pt2 .i64 (digs 10000 Q) (digs 10000 M) wx.heap.size, ps .i64 (digs 10000 Q) wx.heap.size, ps .i64 (digs 10000 M) wx.heap.size, ps .i64 (digs 10000 Q) wx.heap.size, ps .i64 (digs 10000 M) wx.heap.size] (by kernel_rfl) ?ob4 ?done4
      case ob4 =>
        refine And.intro (ob_fieldAddr rfl (wt_none rfl) (ev_far rfl rfl) (fun _ => by kernel_rfl) (fun _ => rfl)) ?_
        refine And.intro (ob_load rfl (wt_none rfl) (ev_dep (j := 0) (by kernel_rfl) rfl rfl) (fun w2 hb => run_load1 Tryd.underlying28 rfl ((B0.below hb).cell 1)) (fun _ _ => rfl)) ?_
        refine And.intro (ob_fieldAddr rfl (wt_none rfl) (ev_far rfl rfl) (fun _ => by kernel_rfl) (fun _ => rfl)) ?_
        refine And.intro (ob_load rfl (wt_none rfl) (ev_dep (j := 2) (by kernel_rfl) rfl rfl) (fun w2 hb => run_load1 Tryd.underlying28 rfl ((B1.below hb).cell 1)) (fun _ _ => rfl)) ?_
        refine And.intro (ob_call2 rfl Tryd.func60 (by kernel_rfl) (wt_none rfl) (ev_dep (j := 1) (by kernel_rfl) rfl rfl) (ev_dep (j := 3) (by kernel_rfl) rfl rfl) (fun w2 u0 u1 hb h0 h1 => by obtain rfl := h0; obtain rfl := h1; exact (HQ.out ▸ HMo.out ▸ refDiv_any _ _ _ _ _ (k0s.below hb) (k1s.below hb) HL.out HL2.out HY.out).mono fun e w3 h => RetSS.pd h hb.size)) ?_
        refine And.intro (ob_move rfl (wt_none rfl) (ev_dep (j := 4) (by kernel_rfl) rfl rfl) (fun _ _ h => h)) ?_
        refine And.intro (ob_extract rfl (wt_none rfl) (ev_dep (j := 5) (by kernel_rfl) rfl rfl) (fun w2 u hu => by obtain ⟨v, u, rfl, q1, q2, q3, q4⟩ := hu; exact ⟨v, rfl, q1, q3⟩)) ?_
        refine And.intro (ob_extract rfl (wt_none rfl) (ev_dep (j := 5) (by kernel_rfl) rfl rfl) (fun w2 u hu => by obtain ⟨v, u, rfl, q1, q2, q3, q4⟩ := hu; exact ⟨u, rfl, q2, q4⟩)) ?_
        refine And.intro (ob_assign rfl (wt_none rfl) (ev_dep (j := 6) (by kernel_rfl) rfl rfl) (fun _ _ h => h)) ?_
        refine And.intro (ob_assign rfl (wt_none rfl) (ev_dep (j := 7) (by kernel_rfl) rfl rfl) (fun _ _ h => h)) ?_
        trivial
      case done4 =>
        refine fun w1 hb1 v0 h0 v1 h1 v2 h2 v3 h3 v4 h4 v5 h5 v6 h6 v7 h7 v8 h8 v9 h9 b hbf => ?_
        obtain rfl := h0; obtain rfl := h1; obtain rfl := h2; obtain rfl := h3
        clear h4
        clear h5
        obtain ⟨q6, f6⟩ := h6
        obtain ⟨q7, f7⟩ := h7
        obtain ⟨q8, f8⟩ := h8
        obtain ⟨q9, f9⟩ := h9
        simp only [Act.put, List.setIfInBounds_toArray, List.set_cons_zero, List.set_cons_succ] at hbf
        subst hbf
        replace B0 := B0.below hb1
        replace B1 := B1.below hb1
        replace B2 := B2.below hb1
        replace B3 := B3.below hb1
        replace k0s := k0s.below hb1
        replace k1s := k1s.below hb1
        replace k0 := k0.below hb1
        replace k1 := k1.below hb1
        replace bb := bb.trans (hb1.mono bb.size)
        have hsz1 := bb.size
        obtain ⟨A6, c6, rfl, _⟩ := id q8
        have kq := q8
        have kqf := f8
        obtain ⟨A7, c7, rfl, _⟩ := id q9
        have kr := q9
        have krf := f9
        refine ops_done ?_
        obtain ⟨x00, x01, _, _⟩ := Blk.two B0
        obtain ⟨x10, x11, _, _⟩ := Blk.two B1
        have hmp : 0 < (digs 10000 M).length := rlenp hm0
        go_upto_region 3 with (fail)
        refine flowp 3 [Pd.eq (.slice A6 (digs 10000 Q).length c6), ps .i64 (digs 10000 1) w1.heap.size, ps .i64 (digs 10000 (Q + 1)) w1.heap.size] (by kernel_rfl) ?ob5 ?done5
        case ob5 =>
          refine And.intro (ob_move rfl (wt_none rfl) (ev_far rfl rfl) (fun _ _ h => h)) ?_
          refine And.intro (ob_call1 rfl Tryd.func28 (by kernel_rfl) (wt_none rfl) (ev_const _) (fun w2 u0 hb h0 => by obtain rfl := h0; exact (refNum_any _ 1 _ rfl (by omega)).mono fun e w3 h => RetS.pd h hb.size)) ?_
          refine And.intro (ob_call2 rfl Tryd.func27 (by kernel_rfl) (wt_none rfl) (ev_dep (j := 0) (by kernel_rfl) rfl rfl) (ev_dep (j := 1) (by kernel_rfl) rfl rfl) (fun w2 u0 u1 hb h0 h1 => by obtain rfl := h0; exact (refAdd_any _ _ _ _ _ (kq.below hb) h1.1 HQl.out (Nat.le_trans (digs_len_le (k := 1) (by omega) (by omega)) (by omega))).mono fun e w3 h => RetS.pd h hb.size)) ?_
          trivial
        case done5 =>
          refine fun w2 hb2 v0 h0 v1 h1 v2 h2 b hbf => ?_
          obtain rfl := h0
          obtain ⟨q1, f1⟩ := h1
          obtain ⟨q2, f2⟩ := h2
          simp only [Act.put, List.setIfInBounds_toArray, List.set_cons_zero, List.set_cons_succ] at hbf
          subst hbf
          replace B0 := B0.below hb2
          replace B1 := B1.below hb2
          replace B2 := B2.below hb2
          replace B3 := B3.below hb2
          replace k0s := k0s.below hb2
          replace k1s := k1s.below hb2
          replace k0 := k0.below hb2
          replace k1 := k1.below hb2
          replace kq := kq.below hb2
          replace bb := bb.trans (hb2.mono bb.size)
          have hsz2 := bb.size
          obtain ⟨A5, c5, rfl, _⟩ := id q2
          have kp := q2
          have kpf := f2
          refine ops_assign (i := 3) (.slice A5 (digs 10000 (Q + 1)).length c5) rfl rfl rfl rfl rfl fun b hbf => ?_
          simp only [Act.put, List.setIfInBounds_toArray, List.set_cons_zero, List.set_cons_succ] at hbf
          subst hbf
          refine ops_done ?_
          go_upto_region 4 with (fail)
          have lt2_2 := Blk.lt B0
          have lt2_3 := Blk.lt B1
          have lt2_4 := Blk.lt B2
          have lt2_5 := Blk.lt B3
          refine flowp 8 [Pd.eq (.pointer (some ⟨w.heap.size, 0, none⟩)), Pd.eq (.bool false), Pd.eq (.pointer (some ⟨w.heap.size + 1, 0, none⟩)), Pd.eq (.bool true), Pd.eq (.bool true), Pd.eq (.slice A5 (digs 10000 (Q + 1)).length c5), pr ((x.fdiv y)), pn 30 #[.bool false, .slice none 0 0] w2.heap.size] (by kernel_rfl) ?ob6 ?done6
          case ob6 =>
            refine And.intro (ob_fieldAddr rfl (wt_none rfl) (ev_far rfl rfl) (fun _ => by kernel_rfl) (fun _ => rfl)) ?_
            refine And.intro (ob_load rfl (wt_none rfl) (ev_dep (j := 0) (by kernel_rfl) rfl rfl) (fun w2 hb => run_load1 Tryd.underlying4 rfl ((B0.below hb).cell 0)) (fun _ _ => rfl)) ?_
            refine And.intro (ob_fieldAddr rfl (wt_none rfl) (ev_far rfl rfl) (fun _ => by kernel_rfl) (fun _ => rfl)) ?_
            refine And.intro (ob_load rfl (wt_none rfl) (ev_dep (j := 2) (by kernel_rfl) rfl rfl) (fun w2 hb => run_load1 Tryd.underlying4 rfl ((B1.below hb).cell 0)) (fun _ _ => rfl)) ?_
            refine And.intro (ob_bin rfl (wt_none rfl) (ev_dep (j := 1) (by kernel_rfl) rfl rfl) (ev_dep (j := 3) (by kernel_rfl) rfl rfl) (fun _ _ _ hx hy => ⟨.bool (!(false == true)), by rw [hx, hy]; exact bin_neq_bool _ _ _ _ Tryd.underlying4 _, rfl⟩)) ?_
            refine And.intro (ob_move rfl (wt_none rfl) (ev_far rfl rfl) (fun _ _ h => h)) ?_
            refine And.intro (ob_call2 rfl Tryd.func40 (by kernel_rfl) (wt_none rfl) (ev_dep (j := 4) (by kernel_rfl) rfl rfl) (ev_dep (j := 5) (by kernel_rfl) rfl rfl) (fun w2 u0 u1 hb h0 h1 => by obtain rfl := h0; obtain rfl := h1; exact made_pd _ _ _ (x.fdiv y) _ (kp.below hb) HZ1.out)) ?_
            refine And.intro (ob_alloc (z := .agg #[.bool false, .slice none 0 0]) rfl rfl (fun _ => by kernel_rfl) (fun _ _ hB h => ⟨_, rfl, hB, h⟩)) ?_
            trivial
          case done6 =>
            refine fun w3 hb3 v0 h0 v1 h1 v2 h2 v3 h3 v4 h4 v5 h5 v6 h6 v7 h7 d7 b hbf => ?_
            obtain rfl := h0; obtain rfl := h1; obtain rfl := h2; obtain rfl := h3; obtain rfl := h4; obtain rfl := h5
            have q6 := h6
            obtain ⟨g7, rfl, hg7, B7⟩ := h7
            simp only [Act.put, List.setIfInBounds_toArray, List.set_cons_zero, List.set_cons_succ] at hbf
            subst hbf
            replace B0 := B0.below hb3
            replace B1 := B1.below hb3
            replace B2 := B2.below hb3
            replace B3 := B3.below hb3
            replace k0s := k0s.below hb3
            replace k1s := k1s.below hb3
            replace k0 := k0.below hb3
            replace k1 := k1.below hb3
            replace kp := kp.below hb3
            replace bb := bb.trans (hb3.mono bb.size)
            have hsz3 := bb.size
            have BA8 := B7
            obtain ⟨u6, rfl, q6⟩ := q6
            obtain ⟨A8, c8, rfl, _⟩ := id q6
            refine ops_store (i := 8) rfl rfl rfl rfl rfl rfl (cells := [.bool (ngB (x.fdiv y)), .slice A8 (digs 10000 ((x.fdiv y)).natAbs).length c8]) rfl BA8 rfl (by kernel_rfl) (one2 rfl rfl) fun w4 hg4 BN4 => ?_
            replace q6 := off q6 BA8 no_ints2 hg4
            replace k0s := off k0s BA8 no_ints2 hg4
            replace k0 : IsR w4 (.agg #[.bool false, .slice A0 (digs 10000 (x).natAbs).length c0]) (x) := isR_mk k0s rfl hs0.symm
            replace B0 := B0.grown hg4 (by omega)
            replace k1s := off k1s BA8 no_ints2 hg4
            replace k1 : IsR w4 (.agg #[.bool true, .slice A1 (digs 10000 (y).natAbs).length c1]) (y) := isR_mk k1s rfl hs1.symm
            replace B1 := B1.grown hg4 (by omega)
            replace B2 := B2.grown hg4 (by omega)
            replace B3 := B3.grown hg4 (by omega)
            replace bb := bb.trans ((Below.refl _ _).grown hg4 bb.size (fun g hg => by injection hg with hg; omega))
            have hsz4 := bb.size
            have Bq : Blk w4 (g7) _ _ := BN4
            have kqs := q6
            have kq : IsR w4 (.agg #[.bool (ngB (x.fdiv y)), .slice A8 (digs 10000 ((x.fdiv y)).natAbs).length c8]) ((x.fdiv y)) := ⟨_, rfl, kqs⟩
            refine ops_done ?_
            go_upto_region 5 with (fail)
            refine flow 6 [Pd.eq (.agg #[.bool (ngB (x.fdiv y)), .slice A8 (digs 10000 ((x.fdiv y)).natAbs).length c8]), Pd.eq (.agg #[.bool false, .slice A0 (digs 10000 (x).natAbs).length c0]), Pd.eq (.agg #[.bool (ngB (x.fdiv y)), .slice A8 (digs 10000 ((x.fdiv y)).natAbs).length c8]), Pd.eq (.agg #[.bool true, .slice A1 (digs 10000 (y).natAbs).length c1]), pr ((x.fdiv y * y)), pr ((x.fmod y))] (by kernel_rfl) (by kernel_rfl) ?ob7 ?done7
            case ob7 =>
              refine And.intro (ob_load rfl (wt_none rfl) (ev_far rfl rfl) (fun w2 hb => run_loadAll Tryd.underlying30 rfl (by kernel_rfl) (Bq.drew.below hb)) (fun _ _ => rfl)) ?_
              refine And.intro (ob_load rfl (wt_none rfl) (ev_far rfl rfl) (fun w2 hb => run_loadAll Tryd.underlying30 rfl (by kernel_rfl) (B0.drew.below hb)) (fun _ _ => rfl)) ?_
              refine And.intro (ob_load rfl (wt_none rfl) (ev_far rfl rfl) (fun w2 hb => run_loadAll Tryd.underlying30 rfl (by kernel_rfl) (Bq.drew.below hb)) (fun _ _ => rfl)) ?_
              refine And.intro (ob_load rfl (wt_none rfl) (ev_far rfl rfl) (fun w2 hb => run_loadAll Tryd.underlying30 rfl (by kernel_rfl) (B1.drew.below hb)) (fun _ _ => rfl)) ?_
              refine And.intro (ob_call2 rfl Tryd.func17 (by kernel_rfl) (wt_none rfl) (ev_dep (j := 2) (by kernel_rfl) rfl rfl) (ev_dep (j := 3) (by kernel_rfl) rfl rfl) (fun w2 u0 u1 hb h0 h1 => by obtain rfl := h0; obtain rfl := h1; exact (rmul_any _ _ _ _ _ (kq.drew.below hb) (k1.drew.below hb) (Nat.le_trans lq (by decide)) (Nat.le_trans hl2 (by decide))).mono fun e w3 h => RetR.pd h)) ?_
              refine And.intro (ob_call2 rfl Tryd.func15 (by kernel_rfl) (wt_none rfl) (ev_dep (j := 1) (by kernel_rfl) rfl rfl) (ev_dep (j := 4) (by kernel_rfl) rfl rfl) (fun w2 u0 u1 hb h0 h1 => by obtain rfl := h0; exact (HFM.out ▸ rsub_any _ _ _ _ _ (k0.drew.below hb) h1 (Nat.le_trans hl (by decide)) lqy).mono fun e w3 h => RetR.pd h)) ?_
              trivial
            case done7 =>
              refine fun w5 hb5 v0 h0 v1 h1 v2 h2 v3 h3 v4 h4 v5 h5 b hbf => ?_
              obtain rfl := h0; obtain rfl := h1; obtain rfl := h2; obtain rfl := h3
              have q4 := h4
              have q5 := h5
              simp only [Act.put, List.setIfInBounds_toArray, List.set_cons_zero, List.set_cons_succ] at hbf
              subst hbf
              replace B0 := B0.below hb5
              replace B1 := B1.below hb5
              replace B2 := B2.below hb5
              replace B3 := B3.below hb5
              replace Bq := Bq.below hb5
              replace k0s := k0s.below hb5
              replace k1s := k1s.below hb5
              replace kqs := kqs.below hb5
              replace k0 := k0.below hb5
              replace k1 := k1.below hb5
              replace kq := kq.below hb5
              replace bb := bb.trans (hb5.mono bb.size)
              have hsz5 := bb.size
              have q0 := kqs
              obtain ⟨u5, rfl, q5⟩ := q5
              obtain ⟨A9, c9, rfl, _⟩ := id q5
              refine any_store (i := 6) (by kernel_rfl) rfl rfl rfl rfl rfl rfl (cells := [.bool (ngB (x.fdiv y)), .slice A8 (digs 10000 ((x.fdiv y)).natAbs).length c8]) rfl B2 rfl (by kernel_rfl) (one2 rfl rfl) fun w6 hg6 BN6 => ?_
              replace q5 := off q5 B2 no_ints2 hg6
              replace q0 := off q0 B2 no_ints2 hg6
              replace k0s := off k0s B2 no_ints2 hg6
              replace k0 : IsR w6 (.agg #[.bool false, .slice A0 (digs 10000 (x).natAbs).length c0]) (x) := isR_mk k0s rfl hs0.symm
              replace B0 := B0.grown hg6 (by omega)
              replace k1s := off k1s B2 no_ints2 hg6
              replace k1 : IsR w6 (.agg #[.bool true, .slice A1 (digs 10000 (y).natAbs).length c1]) (y) := isR_mk k1s rfl hs1.symm
              replace B1 := B1.grown hg6 (by omega)
              replace B3 := B3.grown hg6 (by omega)
              replace kqs := off kqs B2 no_ints2 hg6
              replace kq : IsR w6 (.agg #[.bool (ngB (x.fdiv y)), .slice A8 (digs 10000 ((x.fdiv y)).natAbs).length c8]) ((x.fdiv y)) := ⟨_, rfl, kqs⟩
              replace Bq := Bq.grown hg6 (by omega)
              replace bb := bb.trans ((Below.refl _ _).grown hg6 bb.size (fun g hg => by injection hg with hg; omega))
              have hsz6 := bb.size
              have Br1 : Blk w6 (w.heap.size + 1 + 1) _ _ := BN6
              have kr1s := q0
              have kr1 : IsR w6 (.agg #[.bool (ngB (x.fdiv y)), .slice A8 (digs 10000 ((x.fdiv y)).natAbs).length c8]) ((x.fdiv y)) := ⟨_, rfl, kr1s⟩
              refine any_store (i := 7) (by kernel_rfl) rfl rfl rfl rfl rfl rfl (cells := [.bool (ngB (x.fmod y)), .slice A9 (digs 10000 ((x.fmod y)).natAbs).length c9]) rfl B3 rfl (by kernel_rfl) (one2 rfl rfl) fun w7 hg7 BN7 => ?_
              replace q5 := off q5 B3 no_ints2 hg7
              replace k0s := off k0s B3 no_ints2 hg7
              replace k0 : IsR w7 (.agg #[.bool false, .slice A0 (digs 10000 (x).natAbs).length c0]) (x) := isR_mk k0s rfl hs0.symm
              replace B0 := B0.grown hg7 (by omega)
              replace k1s := off k1s B3 no_ints2 hg7
              replace k1 : IsR w7 (.agg #[.bool true, .slice A1 (digs 10000 (y).natAbs).length c1]) (y) := isR_mk k1s rfl hs1.symm
              replace B1 := B1.grown hg7 (by omega)
              replace kr1s := off kr1s B3 no_ints2 hg7
              replace kr1 : IsR w7 (.agg #[.bool (ngB (x.fdiv y)), .slice A8 (digs 10000 ((x.fdiv y)).natAbs).length c8]) ((x.fdiv y)) := ⟨_, rfl, kr1s⟩
              replace Br1 := Br1.grown hg7 (by omega)
              replace kqs := off kqs B3 no_ints2 hg7
              replace kq : IsR w7 (.agg #[.bool (ngB (x.fdiv y)), .slice A8 (digs 10000 ((x.fdiv y)).natAbs).length c8]) ((x.fdiv y)) := ⟨_, rfl, kqs⟩
              replace Bq := Bq.grown hg7 (by omega)
              replace bb := bb.trans ((Below.refl _ _).grown hg7 bb.size (fun g hg => by injection hg with hg; omega))
              have hsz7 := bb.size
              have Br2 : Blk w7 (w.heap.size + 1 + 1 + 1) _ _ := BN7
              have kr2s := q5
              have kr2 : IsR w7 (.agg #[.bool (ngB (x.fmod y)), .slice A9 (digs 10000 ((x.fmod y)).natAbs).length c9]) ((x.fmod y)) := ⟨_, rfl, kr2s⟩
              refine any_done (by kernel_rfl) ?_
              obtain ⟨y00, y01, _, _⟩ := Blk.two Br1
              obtain ⟨y10, y11, _, _⟩ := Blk.two Br2
              go_wp2
              exact bodyPost_ret (v := .tuple #[.agg #[.bool (ngB (x.fdiv y)), .slice A8 (digs 10000 ((x.fdiv y)).natAbs).length c8], .agg #[.bool (ngB (x.fmod y)), .slice A9 (digs 10000 ((x.fmod y)).natAbs).length c9]]) (by simp [results, Tryd.results35, go_sem, y00, y01, y10, y11]) rfl ⟨_, _, rfl, kr1, kr2, bb⟩
    · have HS := (floor_same (x := x) hy (.inr (by rw [← hM]; omega))).1
      rw [← hQ, hs0, hs1] at HS
      have HZ1 : Hid (sg true (Q) = x.fdiv y) := HS
      clear HS hQ hM hy
      obtain rfl : M = 0 := by omega
      clear hm0
      go_enter Tryd.func35, Tryd.ntmps35
      go_upto_region 1 with (fail)
      obtain ⟨wx, hwx, bb, B0, B1, B2, B3, hsz⟩ := vars4 w 30 30 30 30 #[.bool false, .slice A0 (digs 10000 (x).natAbs).length c0] #[.bool true, .slice A1 (digs 10000 (y).natAbs).length c1] #[.bool false, .slice none 0 0] #[.bool false, .slice none 0 0]
      rw [hwx]
      clear hwx
      have k0s := s0.below bb
      have k0 : IsR wx (.agg #[.bool false, .slice A0 (digs 10000 (x).natAbs).length c0]) (x) := isR_mk k0s rfl hs0.symm
      have k1s := s1.below bb
      have k1 : IsR wx (.agg #[.bool true, .slice A1 (digs 10000 (y).natAbs).length c1]) (y) := isR_mk k1s rfl hs1.symm
      have hszb := bb.size
      refine flowp 10 [Pd.eq (.pointer (some ⟨w.heap.size, 1, none⟩)), Pd.eq (.slice A0 (digs 10000 (x).natAbs).length c0), Pd.eq (.pointer (some ⟨w.heap.size + 1, 1, none⟩)), Pd.eq (.slice A1 (digs 10000 (y).natAbs).length c1), pt2 .i64 (digs 10000 Q) (digs 10000 0) wx.heap.size, pt2 .i64 (digs 10000 Q) (digs 10000 0) wx.heap.size, ps .i64 (digs 10000 Q) wx.heap.size, ps .i64 (digs 10000 0) wx.heap.size, ps .i64 (digs 10000 Q) wx.heap.size, ps .i64 (digs 10000 0) wx.heap.size] (by kernel_rfl) ?ob8 ?done8
      case ob8 =>
        refine And.intro (ob_fieldAddr rfl (wt_none rfl) (ev_far rfl rfl) (fun _ => by kernel_rfl) (fun _ => rfl)) ?_
        refine And.intro (ob_load rfl (wt_none rfl) (ev_dep (j := 0) (by kernel_rfl) rfl rfl) (fun w2 hb => run_load1 Tryd.underlying28 rfl ((B0.below hb).cell 1)) (fun _ _ => rfl)) ?_
        refine And.intro (ob_fieldAddr rfl (wt_none rfl) (ev_far rfl rfl) (fun _ => by kernel_rfl) (fun _ => rfl)) ?_
        refine And.intro (ob_load rfl (wt_none rfl) (ev_dep (j := 2) (by kernel_rfl) rfl rfl) (fun w2 hb => run_load1 Tryd.underlying28 rfl ((B1.below hb).cell 1)) (fun _ _ => rfl)) ?_
        refine And.intro (ob_call2 rfl Tryd.func60 (by kernel_rfl) (wt_none rfl) (ev_dep (j := 1) (by kernel_rfl) rfl rfl) (ev_dep (j := 3) (by kernel_rfl) rfl rfl) (fun w2 u0 u1 hb h0 h1 => by obtain rfl := h0; obtain rfl := h1; exact (HQ.out ▸ HMo.out ▸ refDiv_any _ _ _ _ _ (k0s.below hb) (k1s.below hb) HL.out HL2.out HY.out).mono fun e w3 h => RetSS.pd h hb.size)) ?_
        refine And.intro (ob_move rfl (wt_none rfl) (ev_dep (j := 4) (by kernel_rfl) rfl rfl) (fun _ _ h => h)) ?_
        refine And.intro (ob_extract rfl (wt_none rfl) (ev_dep (j := 5) (by kernel_rfl) rfl rfl) (fun w2 u hu => by obtain ⟨v, u, rfl, q1, q2, q3, q4⟩ := hu; exact ⟨v, rfl, q1, q3⟩)) ?_
        refine And.intro (ob_extract rfl (wt_none rfl) (ev_dep (j := 5) (by kernel_rfl) rfl rfl) (fun w2 u hu => by obtain ⟨v, u, rfl, q1, q2, q3, q4⟩ := hu; exact ⟨u, rfl, q2, q4⟩)) ?_
        refine And.intro (ob_assign rfl (wt_none rfl) (ev_dep (j := 6) (by kernel_rfl) rfl rfl) (fun _ _ h => h)) ?_
        refine And.intro (ob_assign rfl (wt_none rfl) (ev_dep (j := 7) (by kernel_rfl) rfl rfl) (fun _ _ h => h)) ?_
        trivial
      case done8 =>
        refine fun w1 hb1 v0 h0 v1 h1 v2 h2 v3 h3 v4 h4 v5 h5 v6 h6 v7 h7 v8 h8 v9 h9 b hbf => ?_
        obtain rfl := h0; obtain rfl := h1; obtain rfl := h2; obtain rfl := h3
        clear h4
        clear h5
        obtain ⟨q6, f6⟩ := h6
        obtain ⟨q7, f7⟩ := h7
        obtain ⟨q8, f8⟩ := h8
        obtain ⟨q9, f9⟩ := h9
        simp only [Act.put, List.setIfInBounds_toArray, List.set_cons_zero, List.set_cons_succ] at hbf
        subst hbf
        replace B0 := B0.below hb1
        replace B1 := B1.below hb1
        replace B2 := B2.below hb1
        replace B3 := B3.below hb1
        replace k0s := k0s.below hb1
        replace k1s := k1s.below hb1
        replace k0 := k0.below hb1
        replace k1 := k1.below hb1
        replace bb := bb.trans (hb1.mono bb.size)
        have hsz1 := bb.size
        obtain ⟨A6, c6, rfl, _⟩ := id q8
        have kq := q8
        have kqf := f8
        obtain ⟨A7, c7, rfl, _⟩ := id q9
        have kr := q9
        have krf := f9
        refine ops_done ?_
        obtain ⟨x00, x01, _, _⟩ := Blk.two B0
        obtain ⟨x10, x11, _, _⟩ := Blk.two B1
        have hmz : Hid ((digs 10000 0).length = 0) := by show _ = _; rw [digs_zero]; rfl
        rw [hmz.out] at kr krf ⊢
        go_upto_region 4 with (fail)
        have lt1_2 := Blk.lt B0
        have lt1_3 := Blk.lt B1
        have lt1_4 := Blk.lt B2
        have lt1_5 := Blk.lt B3
        refine flowp 8 [Pd.eq (.pointer (some ⟨w.heap.size, 0, none⟩)), Pd.eq (.bool false), Pd.eq (.pointer (some ⟨w.heap.size + 1, 0, none⟩)), Pd.eq (.bool true), Pd.eq (.bool true), Pd.eq (.slice A6 (digs 10000 Q).length c6), pr ((x.fdiv y)), pn 30 #[.bool false, .slice none 0 0] w1.heap.size] (by kernel_rfl) ?ob9 ?done9
        case ob9 =>
          refine And.intro (ob_fieldAddr rfl (wt_none rfl) (ev_far rfl rfl) (fun _ => by kernel_rfl) (fun _ => rfl)) ?_
          refine And.intro (ob_load rfl (wt_none rfl) (ev_dep (j := 0) (by kernel_rfl) rfl rfl) (fun w2 hb => run_load1 Tryd.underlying4 rfl ((B0.below hb).cell 0)) (fun _ _ => rfl)) ?_
          refine And.intro (ob_fieldAddr rfl (wt_none rfl) (ev_far rfl rfl) (fun _ => by kernel_rfl) (fun _ => rfl)) ?_
          refine And.intro (ob_load rfl (wt_none rfl) (ev_dep (j := 2) (by kernel_rfl) rfl rfl) (fun w2 hb => run_load1 Tryd.underlying4 rfl ((B1.below hb).cell 0)) (fun _ _ => rfl)) ?_
          refine And.intro (ob_bin rfl (wt_none rfl) (ev_dep (j := 1) (by kernel_rfl) rfl rfl) (ev_dep (j := 3) (by kernel_rfl) rfl rfl) (fun _ _ _ hx hy => ⟨.bool (!(false == true)), by rw [hx, hy]; exact bin_neq_bool _ _ _ _ Tryd.underlying4 _, rfl⟩)) ?_
          refine And.intro (ob_move rfl (wt_none rfl) (ev_far rfl rfl) (fun _ _ h => h)) ?_
          refine And.intro (ob_call2 rfl Tryd.func40 (by kernel_rfl) (wt_none rfl) (ev_dep (j := 4) (by kernel_rfl) rfl rfl) (ev_dep (j := 5) (by kernel_rfl) rfl rfl) (fun w2 u0 u1 hb h0 h1 => by obtain rfl := h0; obtain rfl := h1; exact made_pd _ _ _ (x.fdiv y) _ (kq.below hb) HZ1.out)) ?_
          refine And.intro (ob_alloc (z := .agg #[.bool false, .slice none 0 0]) rfl rfl (fun _ => by kernel_rfl) (fun _ _ hB h => ⟨_, rfl, hB, h⟩)) ?_
          trivial
        case done9 =>
          refine fun w2 hb2 v0 h0 v1 h1 v2 h2 v3 h3 v4 h4 v5 h5 v6 h6 v7 h7 d7 b hbf => ?_
          obtain rfl := h0; obtain rfl := h1; obtain rfl := h2; obtain rfl := h3; obtain rfl := h4; obtain rfl := h5
          have q6 := h6
          obtain ⟨g7, rfl, hg7, B7⟩ := h7
          simp only [Act.put, List.setIfInBounds_toArray, List.set_cons_zero, List.set_cons_succ] at hbf
          subst hbf
          replace B0 := B0.below hb2
          replace B1 := B1.below hb2
          replace B2 := B2.below hb2
          replace B3 := B3.below hb2
          replace k0s := k0s.below hb2
          replace k1s := k1s.below hb2
          replace k0 := k0.below hb2
          replace k1 := k1.below hb2
          replace kq := kq.below hb2
          replace bb := bb.trans (hb2.mono bb.size)
          have hsz2 := bb.size
          have BA8 := B7
          obtain ⟨u6, rfl, q6⟩ := q6
          obtain ⟨A8, c8, rfl, _⟩ := id q6
          refine ops_store (i := 8) rfl rfl rfl rfl rfl rfl (cells := [.bool (ngB (x.fdiv y)), .slice A8 (digs 10000 ((x.fdiv y)).natAbs).length c8]) rfl BA8 rfl (by kernel_rfl) (one2 rfl rfl) fun w3 hg3 BN3 => ?_
          replace q6 := off q6 BA8 no_ints2 hg3
          replace k0s := off k0s BA8 no_ints2 hg3
          replace k0 : IsR w3 (.agg #[.bool false, .slice A0 (digs 10000 (x).natAbs).length c0]) (x) := isR_mk k0s rfl hs0.symm
          replace B0 := B0.grown hg3 (by omega)
          replace k1s := off k1s BA8 no_ints2 hg3
          replace k1 : IsR w3 (.agg #[.bool true, .slice A1 (digs 10000 (y).natAbs).length c1]) (y) := isR_mk k1s rfl hs1.symm
          replace B1 := B1.grown hg3 (by omega)
          replace B2 := B2.grown hg3 (by omega)
          replace B3 := B3.grown hg3 (by omega)
          replace bb := bb.trans ((Below.refl _ _).grown hg3 bb.size (fun g hg => by injection hg with hg; omega))
          have hsz3 := bb.size
          have Bq : Blk w3 (g7) _ _ := BN3
          have kqs := q6
          have kq : IsR w3 (.agg #[.bool (ngB (x.fdiv y)), .slice A8 (digs 10000 ((x.fdiv y)).natAbs).length c8]) ((x.fdiv y)) := ⟨_, rfl, kqs⟩
          refine ops_done ?_
          go_upto_region 5 with (fail)
          refine flow 6 [Pd.eq (.agg #[.bool (ngB (x.fdiv y)), .slice A8 (digs 10000 ((x.fdiv y)).natAbs).length c8]), Pd.eq (.agg #[.bool false, .slice A0 (digs 10000 (x).natAbs).length c0]), Pd.eq (.agg #[.bool (ngB (x.fdiv y)), .slice A8 (digs 10000 ((x.fdiv y)).natAbs).length c8]), Pd.eq (.agg #[.bool true, .slice A1 (digs 10000 (y).natAbs).length c1]), pr ((x.fdiv y * y)), pr ((x.fmod y))] (by kernel_rfl) (by kernel_rfl) ?ob10 ?done10
          case ob10 =>
            refine And.intro (ob_load rfl (wt_none rfl) (ev_far rfl rfl) (fun w2 hb => run_loadAll Tryd.underlying30 rfl (by kernel_rfl) (Bq.drew.below hb)) (fun _ _ => rfl)) ?_
            refine And.intro (ob_load rfl (wt_none rfl) (ev_far rfl rfl) (fun w2 hb => run_loadAll Tryd.underlying30 rfl (by kernel_rfl) (B0.drew.below hb)) (fun _ _ => rfl)) ?_
            refine And.intro (ob_load rfl (wt_none rfl) (ev_far rfl rfl) (fun w2 hb => run_loadAll Tryd.underlying30 rfl (by kernel_rfl) (Bq.drew.below hb)) (fun _ _ => rfl)) ?_
            refine And.intro (ob_load rfl (wt_none rfl) (ev_far rfl rfl) (fun w2 hb => run_loadAll Tryd.underlying30 rfl (by kernel_rfl) (B1.drew.below hb)) (fun _ _ => rfl)) ?_
            refine And.intro (ob_call2 rfl Tryd.func17 (by kernel_rfl) (wt_none rfl) (ev_dep (j := 2) (by kernel_rfl) rfl rfl) (ev_dep (j := 3) (by kernel_rfl) rfl rfl) (fun w2 u0 u1 hb h0 h1 => by obtain rfl := h0; obtain rfl := h1; exact (rmul_any _ _ _ _ _ (kq.drew.below hb) (k1.drew.below hb) (Nat.le_trans lq (by decide)) (Nat.le_trans hl2 (by decide))).mono fun e w3 h => RetR.pd h)) ?_
            refine And.intro (ob_call2 rfl Tryd.func15 (by kernel_rfl) (wt_none rfl) (ev_dep (j := 1) (by kernel_rfl) rfl rfl) (ev_dep (j := 4) (by kernel_rfl) rfl rfl) (fun w2 u0 u1 hb h0 h1 => by obtain rfl := h0; exact (HFM.out ▸ rsub_any _ _ _ _ _ (k0.drew.below hb) h1 (Nat.le_trans hl (by decide)) lqy).mono fun e w3 h => RetR.pd h)) ?_
            trivial
          case done10 =>
            refine fun w4 hb4 v0 h0 v1 h1 v2 h2 v3 h3 v4 h4 v5 h5 b hbf => ?_
            obtain rfl := h0; obtain rfl := h1; obtain rfl := h2; obtain rfl := h3
            have q4 := h4
            have q5 := h5
            simp only [Act.put, List.setIfInBounds_toArray, List.set_cons_zero, List.set_cons_succ] at hbf
            subst hbf
            replace B0 := B0.below hb4
            replace B1 := B1.below hb4
            replace B2 := B2.below hb4
            replace B3 := B3.below hb4
            replace Bq := Bq.below hb4
            replace k0s := k0s.below hb4
            replace k1s := k1s.below hb4
            replace kqs := kqs.below hb4
            replace k0 := k0.below hb4
            replace k1 := k1.below hb4
            replace kq := kq.below hb4
            replace bb := bb.trans (hb4.mono bb.size)
            have hsz4 := bb.size
            have q0 := kqs
            obtain ⟨u5, rfl, q5⟩ := q5
            obtain ⟨A9, c9, rfl, _⟩ := id q5
            refine any_store (i := 6) (by kernel_rfl) rfl rfl rfl rfl rfl rfl (cells := [.bool (ngB (x.fdiv y)), .slice A8 (digs 10000 ((x.fdiv y)).natAbs).length c8]) rfl B2 rfl (by kernel_rfl) (one2 rfl rfl) fun w5 hg5 BN5 => ?_
            replace q5 := off q5 B2 no_ints2 hg5
            replace q0 := off q0 B2 no_ints2 hg5
            replace k0s := off k0s B2 no_ints2 hg5
            replace k0 : IsR w5 (.agg #[.bool false, .slice A0 (digs 10000 (x).natAbs).length c0]) (x) := isR_mk k0s rfl hs0.symm
            replace B0 := B0.grown hg5 (by omega)
            replace k1s := off k1s B2 no_ints2 hg5
            replace k1 : IsR w5 (.agg #[.bool true, .slice A1 (digs 10000 (y).natAbs).length c1]) (y) := isR_mk k1s rfl hs1.symm
            replace B1 := B1.grown hg5 (by omega)
            replace B3 := B3.grown hg5 (by omega)
            replace kqs := off kqs B2 no_ints2 hg5
            replace kq : IsR w5 (.agg #[.bool (ngB (x.fdiv y)), .slice A8 (digs 10000 ((x.fdiv y)).natAbs).length c8]) ((x.fdiv y)) := ⟨_, rfl, kqs⟩
            replace Bq := Bq.grown hg5 (by omega)
            replace bb := bb.trans ((Below.refl _ _).grown hg5 bb.size (fun g hg => by injection hg with hg; omega))
            have hsz5 := bb.size
            have Br1 : Blk w5 (w.heap.size + 1 + 1) _ _ := BN5
            have kr1s := q0
            have kr1 : IsR w5 (.agg #[.bool (ngB (x.fdiv y)), .slice A8 (digs 10000 ((x.fdiv y)).natAbs).length c8]) ((x.fdiv y)) := ⟨_, rfl, kr1s⟩
            refine any_store (i := 7) (by kernel_rfl) rfl rfl rfl rfl rfl rfl (cells := [.bool (ngB (x.fmod y)), .slice A9 (digs 10000 ((x.fmod y)).natAbs).length c9]) rfl B3 rfl (by kernel_rfl) (one2 rfl rfl) fun w6 hg6 BN6 => ?_
            replace q5 := off q5 B3 no_ints2 hg6
            replace k0s := off k0s B3 no_ints2 hg6
            replace k0 : IsR w6 (.agg #[.bool false, .slice A0 (digs 10000 (x).natAbs).length c0]) (x) := isR_mk k0s rfl hs0.symm
            replace B0 := B0.grown hg6 (by omega)
            replace k1s := off k1s B3 no_ints2 hg6
            replace k1 : IsR w6 (.agg #[.bool true, .slice A1 (digs 10000 (y).natAbs).length c1]) (y) := isR_mk k1s rfl hs1.symm
            replace B1 := B1.grown hg6 (by omega)
            replace kr1s := off kr1s B3 no_ints2 hg6
            replace kr1 : IsR w6 (.agg #[.bool (ngB (x.fdiv y)), .slice A8 (digs 10000 ((x.fdiv y)).natAbs).length c8]) ((x.fdiv y)) := ⟨_, rfl, kr1s⟩
            replace Br1 := Br1.grown hg6 (by omega)
            replace kqs := off kqs B3 no_ints2 hg6
            replace kq : IsR w6 (.agg #[.bool (ngB (x.fdiv y)), .slice A8 (digs 10000 ((x.fdiv y)).natAbs).length c8]) ((x.fdiv y)) := ⟨_, rfl, kqs⟩
            replace Bq := Bq.grown hg6 (by omega)
            replace bb := bb.trans ((Below.refl _ _).grown hg6 bb.size (fun g hg => by injection hg with hg; omega))
            have hsz6 := bb.size
            have Br2 : Blk w6 (w.heap.size + 1 + 1 + 1) _ _ := BN6
            have kr2s := q5
            have kr2 : IsR w6 (.agg #[.bool (ngB (x.fmod y)), .slice A9 (digs 10000 ((x.fmod y)).natAbs).length c9]) ((x.fmod y)) := ⟨_, rfl, kr2s⟩
            refine any_done (by kernel_rfl) ?_
            obtain ⟨y00, y01, _, _⟩ := Blk.two Br1
            obtain ⟨y10, y11, _, _⟩ := Blk.two Br2
            go_wp2
            exact bodyPost_ret (v := .tuple #[.agg #[.bool (ngB (x.fdiv y)), .slice A8 (digs 10000 ((x.fdiv y)).natAbs).length c8], .agg #[.bool (ngB (x.fmod y)), .slice A9 (digs 10000 ((x.fmod y)).natAbs).length c9]]) (by simp [results, Tryd.results35, go_sem, y00, y01, y10, y11]) rfl ⟨_, _, rfl, kr1, kr2, bb⟩
  · by_cases hm0 : 0 < M
    · have HS := (floor_off hy (by rw [hs0, hs1]; simp) (by rw [← hM]; exact hm0)).1
      rw [← hQ] at HS
      have HZ1 : Hid (sg true (Q + 1) = x.fdiv y) := HS
      clear HS hQ hM hy
      go_enter Tryd.func35, Tryd.ntmps35
      go_upto_region 1 with (fail)
      obtain ⟨wx, hwx, bb, B0, B1, B2, B3, hsz⟩ := vars4 w 30 30 30 30 #[.bool true, .slice A0 (digs 10000 (x).natAbs).length c0] #[.bool false, .slice A1 (digs 10000 (y).natAbs).length c1] #[.bool false, .slice none 0 0] #[.bool false, .slice none 0 0]
      rw [hwx]
      clear hwx
      have k0s := s0.below bb
      have k0 : IsR wx (.agg #[.bool true, .slice A0 (digs 10000 (x).natAbs).length c0]) (x) := isR_mk k0s rfl hs0.symm
      have k1s := s1.below bb
      have k1 : IsR wx (.agg #[.bool false, .slice A1 (digs 10000 (y).natAbs).length c1]) (y) := isR_mk k1s rfl hs1.symm
      have hszb := bb.size
      refine flowp 10 [Pd.eq (.pointer (some ⟨w.heap.size, 1, none⟩)), Pd.eq (.slice A0 (digs 10000 (x).natAbs).length c0), Pd.eq (.pointer (some ⟨w.heap.size + 1, 1, none⟩)), Pd.eq (.slice A1 (digs 10000 (y).natAbs).length c1), pt2 .i64 (digs 10000 Q) (digs 10000 M) wx.heap.size, pt2 .i64 (digs 10000 Q) (digs 10000 M) wx.heap.size, ps .i64 (digs 10000 Q) wx.heap.size, ps .i64 (digs 10000 M) wx.heap.size, ps .i64 (digs 10000 Q) wx.heap.size, ps .i64 (digs 10000 M) wx.heap.size] (by kernel_rfl) ?ob11 ?done11
      case ob11 =>
        refine And.intro (ob_fieldAddr rfl (wt_none rfl) (ev_far rfl rfl) (fun _ => by kernel_rfl) (fun _ => rfl)) ?_
        refine And.intro (ob_load rfl (wt_none rfl) (ev_dep (j := 0) (by kernel_rfl) rfl rfl) (fun w2 hb => run_load1 Tryd.underlying28 rfl ((B0.below hb).cell 1)) (fun _ _ => rfl)) ?_
        refine And.intro (ob_fieldAddr rfl (wt_none rfl) (ev_far rfl rfl) (fun _ => by kernel_rfl) (fun _ => rfl)) ?_
        refine And.intro (ob_load rfl (wt_none rfl) (ev_dep (j := 2) (by kernel_rfl) rfl rfl) (fun w2 hb => run_load1 Tryd.underlying28 rfl ((B1.below hb).cell 1)) (fun _ _ => rfl)) ?_
        refine And.intro (ob_call2 rfl Tryd.func60 (by kernel_rfl) (wt_none rfl) (ev_dep (j := 1) (by kernel_rfl) rfl rfl) (ev_dep (j := 3) (by kernel_rfl) rfl rfl) (fun w2 u0 u1 hb h0 h1 => by obtain rfl := h0; obtain rfl := h1; exact (HQ.out ▸ HMo.out ▸ refDiv_any _ _ _ _ _ (k0s.below hb) (k1s.below hb) HL.out HL2.out HY.out).mono fun e w3 h => RetSS.pd h hb.size)) ?_
        refine And.intro (ob_move rfl (wt_none rfl) (ev_dep (j := 4) (by kernel_rfl) rfl rfl) (fun _ _ h => h)) ?_
        refine And.intro (ob_extract rfl (wt_none rfl) (ev_dep (j := 5) (by kernel_rfl) rfl rfl) (fun w2 u hu => by obtain ⟨v, u, rfl, q1, q2, q3, q4⟩ := hu; exact ⟨v, rfl, q1, q3⟩)) ?_
        refine And.intro (ob_extract rfl (wt_none rfl) (ev_dep (j := 5) (by kernel_rfl) rfl rfl) (fun w2 u hu => by obtain ⟨v, u, rfl, q1, q2, q3, q4⟩ := hu; exact ⟨u, rfl, q2, q4⟩)) ?_
        refine And.intro (ob_assign rfl (wt_none rfl) (ev_dep (j := 6) (by kernel_rfl) rfl rfl) (fun _ _ h => h)) ?_
        refine And.intro (ob_assign rfl (wt_none rfl) (ev_dep (j := 7) (by kernel_rfl) rfl rfl) (fun _ _ h => h)) ?_
        trivial
      case done11 =>
        refine fun w1 hb1 v0 h0 v1 h1 v2 h2 v3 h3 v4 h4 v5 h5 v6 h6 v7 h7 v8 h8 v9 h9 b hbf => ?_
        obtain rfl := h0; obtain rfl := h1; obtain rfl := h2; obtain rfl := h3
        clear h4
        clear h5
        obtain ⟨q6, f6⟩ := h6
        obtain ⟨q7, f7⟩ := h7
        obtain ⟨q8, f8⟩ := h8
        obtain ⟨q9, f9⟩ := h9
        simp only [Act.put, List.setIfInBounds_toArray, List.set_cons_zero, List.set_cons_succ] at hbf
        subst hbf
        replace B0 := B0.below hb1
        replace B1 := B1.below hb1
        replace B2 := B2.below hb1
        replace B3 := B3.below hb1
        replace k0s := k0s.below hb1
        replace k1s := k1s.below hb1
        replace k0 := k0.below hb1
        replace k1 := k1.below hb1
        replace bb := bb.trans (hb1.mono bb.size)
        have hsz1 := bb.size
        obtain ⟨A6, c6, rfl, _⟩ := id q8
        have kq := q8
        have kqf := f8
        obtain ⟨A7, c7, rfl, _⟩ := id q9
        have kr := q9
        have krf := f9
        refine ops_done ?_
        obtain ⟨x00, x01, _, _⟩ := Blk.two B0
        obtain ⟨x10, x11, _, _⟩ := Blk.two B1
        have hmp : 0 < (digs 10000 M).length := rlenp hm0
        go_upto_region 3 with (fail)
        refine flowp 3 [Pd.eq (.slice A6 (digs 10000 Q).length c6), ps .i64 (digs 10000 1) w1.heap.size, ps .i64 (digs 10000 (Q + 1)) w1.heap.size] (by kernel_rfl) ?ob12 ?done12
        case ob12 =>
          refine And.intro (ob_move rfl (wt_none rfl) (ev_far rfl rfl) (fun _ _ h => h)) ?_
          refine And.intro (ob_call1 rfl Tryd.func28 (by kernel_rfl) (wt_none rfl) (ev_const _) (fun w2 u0 hb h0 => by obtain rfl := h0; exact (refNum_any _ 1 _ rfl (by omega)).mono fun e w3 h => RetS.pd h hb.size)) ?_
          refine And.intro (ob_call2 rfl Tryd.func27 (by kernel_rfl) (wt_none rfl) (ev_dep (j := 0) (by kernel_rfl) rfl rfl) (ev_dep (j := 1) (by kernel_rfl) rfl rfl) (fun w2 u0 u1 hb h0 h1 => by obtain rfl := h0; exact (refAdd_any _ _ _ _ _ (kq.below hb) h1.1 HQl.out (Nat.le_trans (digs_len_le (k := 1) (by omega) (by omega)) (by omega))).mono fun e w3 h => RetS.pd h hb.size)) ?_
          trivial
        case done12 =>
          refine fun w2 hb2 v0 h0 v1 h1 v2 h2 b hbf => ?_
          obtain rfl := h0
          obtain ⟨q1, f1⟩ := h1
          obtain ⟨q2, f2⟩ := h2
          simp only [Act.put, List.setIfInBounds_toArray, List.set_cons_zero, List.set_cons_succ] at hbf
          subst hbf
          replace B0 := B0.below hb2
          replace B1 := B1.below hb2
          replace B2 := B2.below hb2
          replace B3 := B3.below hb2
          replace k0s := k0s.below hb2
          replace k1s := k1s.below hb2
          replace k0 := k0.below hb2
          replace k1 := k1.below hb2
          replace kq := kq.below hb2
          replace bb := bb.trans (hb2.mono bb.size)
          have hsz2 := bb.size
          obtain ⟨A5, c5, rfl, _⟩ := id q2
          have kp := q2
          have kpf := f2
          refine ops_assign (i := 3) (.slice A5 (digs 10000 (Q + 1)).length c5) rfl rfl rfl rfl rfl fun b hbf => ?_
          simp only [Act.put, List.setIfInBounds_toArray, List.set_cons_zero, List.set_cons_succ] at hbf
          subst hbf
          refine ops_done ?_
          go_upto_region 4 with (fail)
          have lt2_2 := Blk.lt B0
          have lt2_3 := Blk.lt B1
          have lt2_4 := Blk.lt B2
          have lt2_5 := Blk.lt B3
          refine flowp 8 [Pd.eq (.pointer (some ⟨w.heap.size, 0, none⟩)), Pd.eq (.bool true), Pd.eq (.pointer (some ⟨w.heap.size + 1, 0, none⟩)), Pd.eq (.bool false), Pd.eq (.bool true), Pd.eq (.slice A5 (digs 10000 (Q + 1)).length c5), pr ((x.fdiv y)), pn 30 #[.bool false, .slice none 0 0] w2.heap.size] (by kernel_rfl) ?ob13 ?done13
          case ob13 =>
            refine And.intro (ob_fieldAddr rfl (wt_none rfl) (ev_far rfl rfl) (fun _ => by kernel_rfl) (fun _ => rfl)) ?_
            refine And.intro (ob_load rfl (wt_none rfl) (ev_dep (j := 0) (by kernel_rfl) rfl rfl) (fun w2 hb => run_load1 Tryd.underlying4 rfl ((B0.below hb).cell 0)) (fun _ _ => rfl)) ?_
            refine And.intro (ob_fieldAddr rfl (wt_none rfl) (ev_far rfl rfl) (fun _ => by kernel_rfl) (fun _ => rfl)) ?_
            refine And.intro (ob_load rfl (wt_none rfl) (ev_dep (j := 2) (by kernel_rfl) rfl rfl) (fun w2 hb => run_load1 Tryd.underlying4 rfl ((B1.below hb).cell 0)) (fun _ _ => rfl)) ?_
            refine And.intro (ob_bin rfl (wt_none rfl) (ev_dep (j := 1) (by kernel_rfl) rfl rfl) (ev_dep (j := 3) (by kernel_rfl) rfl rfl) (fun _ _ _ hx hy => ⟨.bool (!(true == false)), by rw [hx, hy]; exact bin_neq_bool _ _ _ _ Tryd.underlying4 _, rfl⟩)) ?_
            refine And.intro (ob_move rfl (wt_none rfl) (ev_far rfl rfl) (fun _ _ h => h)) ?_
            refine And.intro (ob_call2 rfl Tryd.func40 (by kernel_rfl) (wt_none rfl) (ev_dep (j := 4) (by kernel_rfl) rfl rfl) (ev_dep (j := 5) (by kernel_rfl) rfl rfl) (fun w2 u0 u1 hb h0 h1 => by obtain rfl := h0; obtain rfl := h1; exact made_pd _ _ _ (x.fdiv y) _ (kp.below hb) HZ1.out)) ?_
            refine And.intro (ob_alloc (z := .agg #[.bool false, .slice none 0 0]) rfl rfl (fun _ => by kernel_rfl) (fun _ _ hB h => ⟨_, rfl, hB, h⟩)) ?_
            trivial
          case done13 =>
            refine fun w3 hb3 v0 h0 v1 h1 v2 h2 v3 h3 v4 h4 v5 h5 v6 h6 v7 h7 d7 b hbf => ?_
            obtain rfl := h0; obtain rfl := h1; obtain rfl := h2; obtain rfl := h3; obtain rfl := h4; obtain rfl := h5
            have q6 := h6
            obtain ⟨g7, rfl, hg7, B7⟩ := h7
            simp only [Act.put, List.setIfInBounds_toArray, List.set_cons_zero, List.set_cons_succ] at hbf
            subst hbf
            replace B0 := B0.below hb3
            replace B1 := B1.below hb3
            replace B2 := B2.below hb3
            replace B3 := B3.below hb3
            replace k0s := k0s.below hb3
            replace k1s := k1s.below hb3
            replace k0 := k0.below hb3
            replace k1 := k1.below hb3
            replace kp := kp.below hb3
            replace bb := bb.trans (hb3.mono bb.size)
            have hsz3 := bb.size
            have BA8 := B7
            obtain ⟨u6, rfl, q6⟩ := q6
            obtain ⟨A8, c8, rfl, _⟩ := id q6
            refine ops_store (i := 8) rfl rfl rfl rfl rfl rfl (cells := [.bool (ngB (x.fdiv y)), .slice A8 (digs 10000 ((x.fdiv y)).natAbs).length c8]) rfl BA8 rfl (by kernel_rfl) (one2 rfl rfl) fun w4 hg4 BN4 => ?_
            replace q6 := off q6 BA8 no_ints2 hg4
            replace k0s := off k0s BA8 no_ints2 hg4
            replace k0 : IsR w4 (.agg #[.bool true, .slice A0 (digs 10000 (x).natAbs).length c0]) (x) := isR_mk k0s rfl hs0.symm
            replace B0 := B0.grown hg4 (by omega)
            replace k1s := off k1s BA8 no_ints2 hg4
            replace k1 : IsR w4 (.agg #[.bool false, .slice A1 (digs 10000 (y).natAbs).length c1]) (y) := isR_mk k1s rfl hs1.symm
            replace B1 := B1.grown hg4 (by omega)
            replace B2 := B2.grown hg4 (by omega)
            replace B3 := B3.grown hg4 (by omega)
            replace bb := bb.trans ((Below.refl _ _).grown hg4 bb.size (fun g hg => by injection hg with hg; omega))
            have hsz4 := bb.size
            have Bq : Blk w4 (g7) _ _ := BN4
            have kqs := q6
            have kq : IsR w4 (.agg #[.bool (ngB (x.fdiv y)), .slice A8 (digs 10000 ((x.fdiv y)).natAbs).length c8]) ((x.fdiv y)) := ⟨_, rfl, kqs⟩
            refine ops_done ?_
            go_upto_region 5 with (fail)
            refine flow 6 [Pd.eq (.agg #[.bool (ngB (x.fdiv y)), .slice A8 (digs 10000 ((x.fdiv y)).natAbs).length c8]), Pd.eq (.agg #[.bool true, .slice A0 (digs 10000 (x).natAbs).length c0]), Pd.eq (.agg #[.bool (ngB (x.fdiv y)), .slice A8 (digs 10000 ((x.fdiv y)).natAbs).length c8]), Pd.eq (.agg #[.bool false, .slice A1 (digs 10000 (y).natAbs).length c1]), pr ((x.fdiv y * y)), pr ((x.fmod y))] (by kernel_rfl) (by kernel_rfl) ?ob14 ?done14
            case ob14 =>
              refine And.intro (ob_load rfl (wt_none rfl) (ev_far rfl rfl) (fun w2 hb => run_loadAll Tryd.underlying30 rfl (by kernel_rfl) (Bq.drew.below hb)) (fun _ _ => rfl)) ?_
              refine And.intro (ob_load rfl (wt_none rfl) (ev_far rfl rfl) (fun w2 hb => run_loadAll Tryd.underlying30 rfl (by kernel_rfl) (B0.drew.below hb)) (fun _ _ => rfl)) ?_
              refine And.intro (ob_load rfl (wt_none rfl) (ev_far rfl rfl) (fun w2 hb => run_loadAll Tryd.underlying30 rfl (by kernel_rfl) (Bq.drew.below hb)) (fun _ _ => rfl)) ?_
              refine And.intro (ob_load rfl (wt_none rfl) (ev_far rfl rfl) (fun w2 hb => run_loadAll Tryd.underlying30 rfl (by kernel_rfl) (B1.drew.below hb)) (fun _ _ => rfl)) ?_
              refine And.intro (ob_call2 rfl Tryd.func17 (by kernel_rfl) (wt_none rfl) (ev_dep (j := 2) (by kernel_rfl) rfl rfl) (ev_dep (j := 3) (by kernel_rfl) rfl rfl) (fun w2 u0 u1 hb h0 h1 => by obtain rfl := h0; obtain rfl := h1; exact (rmul_any _ _ _ _ _ (kq.drew.below hb) (k1.drew.below hb) (Nat.le_trans lq (by decide)) (Nat.le_trans hl2 (by decide))).mono fun e w3 h => RetR.pd h)) ?_
              refine And.intro (ob_call2 rfl Tryd.func15 (by kernel_rfl) (wt_none rfl) (ev_dep (j := 1) (by kernel_rfl) rfl rfl) (ev_dep (j := 4) (by kernel_rfl) rfl rfl) (fun w2 u0 u1 hb h0 h1 => by obtain rfl := h0; exact (HFM.out ▸ rsub_any _ _ _ _ _ (k0.drew.below hb) h1 (Nat.le_trans hl (by decide)) lqy).mono fun e w3 h => RetR.pd h)) ?_
              trivial
            case done14 =>
              refine fun w5 hb5 v0 h0 v1 h1 v2 h2 v3 h3 v4 h4 v5 h5 b hbf => ?_
              obtain rfl := h0; obtain rfl := h1; obtain rfl := h2; obtain rfl := h3
              have q4 := h4
              have q5 := h5
              simp only [Act.put, List.setIfInBounds_toArray, List.set_cons_zero, List.set_cons_succ] at hbf
              subst hbf
              replace B0 := B0.below hb5
              replace B1 := B1.below hb5
              replace B2 := B2.below hb5
              replace B3 := B3.below hb5
              replace Bq := Bq.below hb5
              replace k0s := k0s.below hb5
              replace k1s := k1s.below hb5
              replace kqs := kqs.below hb5
              replace k0 := k0.below hb5
              replace k1 := k1.below hb5
              replace kq := kq.below hb5
              replace bb := bb.trans (hb5.mono bb.size)
              have hsz5 := bb.size
              have q0 := kqs
              obtain ⟨u5, rfl, q5⟩ := q5
              obtain ⟨A9, c9, rfl, _⟩ := id q5
              refine any_store (i := 6) (by kernel_rfl) rfl rfl rfl rfl rfl rfl (cells := [.bool (ngB (x.fdiv y)), .slice A8 (digs 10000 ((x.fdiv y)).natAbs).length c8]) rfl B2 rfl (by kernel_rfl) (one2 rfl rfl) fun w6 hg6 BN6 => ?_
              replace q5 := off q5 B2 no_ints2 hg6
              replace q0 := off q0 B2 no_ints2 hg6
              replace k0s := off k0s B2 no_ints2 hg6
              replace k0 : IsR w6 (.agg #[.bool true, .slice A0 (digs 10000 (x).natAbs).length c0]) (x) := isR_mk k0s rfl hs0.symm
              replace B0 := B0.grown hg6 (by omega)
              replace k1s := off k1s B2 no_ints2 hg6
              replace k1 : IsR w6 (.agg #[.bool false, .slice A1 (digs 10000 (y).natAbs).length c1]) (y) := isR_mk k1s rfl hs1.symm
              replace B1 := B1.grown hg6 (by omega)
              replace B3 := B3.grown hg6 (by omega)
              replace kqs := off kqs B2 no_ints2 hg6
              replace kq : IsR w6 (.agg #[.bool (ngB (x.fdiv y)), .slice A8 (digs 10000 ((x.fdiv y)).natAbs).length c8]) ((x.fdiv y)) := ⟨_, rfl, kqs⟩
              replace Bq := Bq.grown hg6 (by omega)
              replace bb := bb.trans ((Below.refl _ _).grown hg6 bb.size (fun g hg => by injection hg with hg; omega))
              have hsz6 := bb.size
              have Br1 : Blk w6 (w.heap.size + 1 + 1) _ _ := BN6
              have kr1s := q0
              have kr1 : IsR w6 (.agg #[.bool (ngB (x.fdiv y)), .slice A8 (digs 10000 ((x.fdiv y)).natAbs).length c8]) ((x.fdiv y)) := ⟨_, rfl, kr1s⟩
              refine any_store (i := 7) (by kernel_rfl) rfl rfl rfl rfl rfl rfl (cells := [.bool (ngB (x.fmod y)), .slice A9 (digs 10000 ((x.fmod y)).natAbs).length c9]) rfl B3 rfl (by kernel_rfl) (one2 rfl rfl) fun w7 hg7 BN7 => ?_
              replace q5 := off q5 B3 no_ints2 hg7
              replace k0s := off k0s B3 no_ints2 hg7
              replace k0 : IsR w7 (.agg #[.bool true, .slice A0 (digs 10000 (x).natAbs).length c0]) (x) := isR_mk k0s rfl hs0.symm
              replace B0 := B0.grown hg7 (by omega)
              replace k1s := off k1s B3 no_ints2 hg7
              replace k1 : IsR w7 (.agg #[.bool false, .slice A1 (digs 10000 (y).natAbs).length c1]) (y) := isR_mk k1s rfl hs1.symm
              replace B1 := B1.grown hg7 (by omega)
              replace kr1s := off kr1s B3 no_ints2 hg7
              replace kr1 : IsR w7 (.agg #[.bool (ngB (x.fdiv y)), .slice A8 (digs 10000 ((x.fdiv y)).natAbs).length c8]) ((x.fdiv y)) := ⟨_, rfl, kr1s⟩
              replace Br1 := Br1.grown hg7 (by omega)
              replace kqs := off kqs B3 no_ints2 hg7
              replace kq : IsR w7 (.agg #[.bool (ngB (x.fdiv y)), .slice A8 (digs 10000 ((x.fdiv y)).natAbs).length c8]) ((x.fdiv y)) := ⟨_, rfl, kqs⟩
              replace Bq := Bq.grown hg7 (by omega)
              replace bb := bb.trans ((Below.refl _ _).grown hg7 bb.size (fun g hg => by injection hg with hg; omega))
              have hsz7 := bb.size
              have Br2 : Blk w7 (w.heap.size + 1 + 1 + 1) _ _ := BN7
              have kr2s := q5
              have kr2 : IsR w7 (.agg #[.bool (ngB (x.fmod y)), .slice A9 (digs 10000 ((x.fmod y)).natAbs).length c9]) ((x.fmod y)) := ⟨_, rfl, kr2s⟩
              refine any_done (by kernel_rfl) ?_
              obtain ⟨y00, y01, _, _⟩ := Blk.two Br1
              obtain ⟨y10, y11, _, _⟩ := Blk.two Br2
              go_wp2
              exact bodyPost_ret (v := .tuple #[.agg #[.bool (ngB (x.fdiv y)), .slice A8 (digs 10000 ((x.fdiv y)).natAbs).length c8], .agg #[.bool (ngB (x.fmod y)), .slice A9 (digs 10000 ((x.fmod y)).natAbs).length c9]]) (by simp [results, Tryd.results35, go_sem, y00, y01, y10, y11]) rfl ⟨_, _, rfl, kr1, kr2, bb⟩
    · have HS := (floor_same (x := x) hy (.inr (by rw [← hM]; omega))).1
      rw [← hQ, hs0, hs1] at HS
      have HZ1 : Hid (sg true (Q) = x.fdiv y) := HS
      clear HS hQ hM hy
      obtain rfl : M = 0 := by omega
      clear hm0
      go_enter Tryd.func35, Tryd.ntmps35
      go_upto_region 1 with (fail)
      obtain ⟨wx, hwx, bb, B0, B1, B2, B3, hsz⟩ := vars4 w 30 30 30 30 #[.bool true, .slice A0 (digs 10000 (x).natAbs).length c0] #[.bool false, .slice A1 (digs 10000 (y).natAbs).length c1] #[.bool false, .slice none 0 0] #[.bool false, .slice none 0 0]
      rw [hwx]
      clear hwx
      have k0s := s0.below bb
      have k0 : IsR wx (.agg #[.bool true, .slice A0 (digs 10000 (x).natAbs).length c0]) (x) := isR_mk k0s rfl hs0.symm
      have k1s := s1.below bb
      have k1 : IsR wx (.agg #[.bool false, .slice A1 (digs 10000 (y).natAbs).length c1]) (y) := isR_mk k1s rfl hs1.symm
      have hszb := bb.size
      refine flowp 10 [Pd.eq (.pointer (some ⟨w.heap.size, 1, none⟩)), Pd.eq (.slice A0 (digs 10000 (x).natAbs).length c0), Pd.eq (.pointer (some ⟨w.heap.size + 1, 1, none⟩)), Pd.eq (.slice A1 (digs 10000 (y).natAbs).length c1), pt2 .i64 (digs 10000 Q) (digs 10000 0) wx.heap.size, pt2 .i64 (digs 10000 Q) (digs 10000 0) wx.heap.size, ps .i64 (digs 10000 Q) wx.heap.size, ps .i64 (digs 10000 0) wx.heap.size, ps .i64 (digs 10000 Q) wx.heap.size, ps .i64 (digs 10000 0) wx.heap.size] (by kernel_rfl) ?ob15 ?done15
      case ob15 =>
        refine And.intro (ob_fieldAddr rfl (wt_none rfl) (ev_far rfl rfl) (fun _ => by kernel_rfl) (fun _ => rfl)) ?_
        refine And.intro (ob_load rfl (wt_none rfl) (ev_dep (j := 0) (by kernel_rfl) rfl rfl) (fun w2 hb => run_load1 Tryd.underlying28 rfl ((B0.below hb).cell 1)) (fun _ _ => rfl)) ?_
        refine And.intro (ob_fieldAddr rfl (wt_none rfl) (ev_far rfl rfl) (fun _ => by kernel_rfl) (fun _ => rfl)) ?_
        refine And.intro (ob_load rfl (wt_none rfl) (ev_dep (j := 2) (by kernel_rfl) rfl rfl) (fun w2 hb => run_load1 Tryd.underlying28 rfl ((B1.below hb).cell 1)) (fun _ _ => rfl)) ?_
        refine And.intro (ob_call2 rfl Tryd.func60 (by kernel_rfl) (wt_none rfl) (ev_dep (j := 1) (by kernel_rfl) rfl rfl) (ev_dep (j := 3) (by kernel_rfl) rfl rfl) (fun w2 u0 u1 hb h0 h1 => by obtain rfl := h0; obtain rfl := h1; exact (HQ.out ▸ HMo.out ▸ refDiv_any _ _ _ _ _ (k0s.below hb) (k1s.below hb) HL.out HL2.out HY.out).mono fun e w3 h => RetSS.pd h hb.size)) ?_
        refine And.intro (ob_move rfl (wt_none rfl) (ev_dep (j := 4) (by kernel_rfl) rfl rfl) (fun _ _ h => h)) ?_
        refine And.intro (ob_extract rfl (wt_none rfl) (ev_dep (j := 5) (by kernel_rfl) rfl rfl) (fun w2 u hu => by obtain ⟨v, u, rfl, q1, q2, q3, q4⟩ := hu; exact ⟨v, rfl, q1, q3⟩)) ?_
        refine And.intro (ob_extract rfl (wt_none rfl) (ev_dep (j := 5) (by kernel_rfl) rfl rfl) (fun w2 u hu => by obtain ⟨v, u, rfl, q1, q2, q3, q4⟩ := hu; exact ⟨u, rfl, q2, q4⟩)) ?_
        refine And.intro (ob_assign rfl (wt_none rfl) (ev_dep (j := 6) (by kernel_rfl) rfl rfl) (fun _ _ h => h)) ?_
        refine And.intro (ob_assign rfl (wt_none rfl) (ev_dep (j := 7) (by kernel_rfl) rfl rfl) (fun _ _ h => h)) ?_
        trivial
      case done15 =>
        refine fun w1 hb1 v0 h0 v1 h1 v2 h2 v3 h3 v4 h4 v5 h5 v6 h6 v7 h7 v8 h8 v9 h9 b hbf => ?_
        obtain rfl := h0; obtain rfl := h1; obtain rfl := h2; obtain rfl := h3
        clear h4
        clear h5
        obtain ⟨q6, f6⟩ := h6
        obtain ⟨q7, f7⟩ := h7
        obtain ⟨q8, f8⟩ := h8
        obtain ⟨q9, f9⟩ := h9
        simp only [Act.put, List.setIfInBounds_toArray, List.set_cons_zero, List.set_cons_succ] at hbf
        subst hbf
        replace B0 := B0.below hb1
        replace B1 := B1.below hb1
        replace B2 := B2.below hb1
        replace B3 := B3.below hb1
        replace k0s := k0s.below hb1
        replace k1s := k1s.below hb1
        replace k0 := k0.below hb1
        replace k1 := k1.below hb1
        replace bb := bb.trans (hb1.mono bb.size)
        have hsz1 := bb.size
        obtain ⟨A6, c6, rfl, _⟩ := id q8
        have kq := q8
        have kqf := f8
        obtain ⟨A7, c7, rfl, _⟩ := id q9
        have kr := q9
        have krf := f9
        refine ops_done ?_
        obtain ⟨x00, x01, _, _⟩ := Blk.two B0
        obtain ⟨x10, x11, _, _⟩ := Blk.two B1
        have hmz : Hid ((digs 10000 0).length = 0) := by show _ = _; rw [digs_zero]; rfl
        rw [hmz.out] at kr krf ⊢
        go_upto_region 4 with (fail)
        have lt1_2 := Blk.lt B0
        have lt1_3 := Blk.lt B1
        have lt1_4 := Blk.lt B2
        have lt1_5 := Blk.lt B3
        refine flowp 8 [Pd.eq (.pointer (some ⟨w.heap.size, 0, none⟩)), Pd.eq (.bool true), Pd.eq (.pointer (some ⟨w.heap.size + 1, 0, none⟩)), Pd.eq (.bool false), Pd.eq (.bool true), Pd.eq (.slice A6 (digs 10000 Q).length c6), pr ((x.fdiv y)), pn 30 #[.bool false, .slice none 0 0] w1.heap.size] (by kernel_rfl) ?ob16 ?done16
        case ob16 =>
          refine And.intro (ob_fieldAddr rfl (wt_none rfl) (ev_far rfl rfl) (fun _ => by kernel_rfl) (fun _ => rfl)) ?_
          refine And.intro (ob_load rfl (wt_none rfl) (ev_dep (j := 0) (by kernel_rfl) rfl rfl) (fun w2 hb => run_load1 Tryd.underlying4 rfl ((B0.below hb).cell 0)) (fun _ _ => rfl)) ?_
          refine And.intro (ob_fieldAddr rfl (wt_none rfl) (ev_far rfl rfl) (fun _ => by kernel_rfl) (fun _ => rfl)) ?_
          refine And.intro (ob_load rfl (wt_none rfl) (ev_dep (j := 2) (by kernel_rfl) rfl rfl) (fun w2 hb => run_load1 Tryd.underlying4 rfl ((B1.below hb).cell 0)) (fun _ _ => rfl)) ?_
          refine And.intro (ob_bin rfl (wt_none rfl) (ev_dep (j := 1) (by kernel_rfl) rfl rfl) (ev_dep (j := 3) (by kernel_rfl) rfl rfl) (fun _ _ _ hx hy => ⟨.bool (!(true == false)), by rw [hx, hy]; exact bin_neq_bool _ _ _ _ Tryd.underlying4 _, rfl⟩)) ?_
          refine And.intro (ob_move rfl (wt_none rfl) (ev_far rfl rfl) (fun _ _ h => h)) ?_
          refine And.intro (ob_call2 rfl Tryd.func40 (by kernel_rfl) (wt_none rfl) (ev_dep (j := 4) (by kernel_rfl) rfl rfl) (ev_dep (j := 5) (by kernel_rfl) rfl rfl) (fun w2 u0 u1 hb h0 h1 => by obtain rfl := h0; obtain rfl := h1; exact made_pd _ _ _ (x.fdiv y) _ (kq.below hb) HZ1.out)) ?_
          refine And.intro (ob_alloc (z := .agg #[.bool false, .slice none 0 0]) rfl rfl (fun _ => by kernel_rfl) (fun _ _ hB h => ⟨_, rfl, hB, h⟩)) ?_
          trivial
        case done16 =>
          refine fun w2 hb2 v0 h0 v1 h1 v2 h2 v3 h3 v4 h4 v5 h5 v6 h6 v7 h7 d7 b hbf => ?_
          obtain rfl := h0; obtain rfl := h1; obtain rfl := h2; obtain rfl := h3; obtain rfl := h4; obtain rfl := h5
          have q6 := h6
          obtain ⟨g7, rfl, hg7, B7⟩ := h7
          simp only [Act.put, List.setIfInBounds_toArray, List.set_cons_zero, List.set_cons_succ] at hbf
          subst hbf
          replace B0 := B0.below hb2
          replace B1 := B1.below hb2
          replace B2 := B2.below hb2
          replace B3 := B3.below hb2
          replace k0s := k0s.below hb2
          replace k1s := k1s.below hb2
          replace k0 := k0.below hb2
          replace k1 := k1.below hb2
          replace kq := kq.below hb2
          replace bb := bb.trans (hb2.mono bb.size)
          have hsz2 := bb.size
          have BA8 := B7
          obtain ⟨u6, rfl, q6⟩ := q6
          obtain ⟨A8, c8, rfl, _⟩ := id q6
          refine ops_store (i := 8) rfl rfl rfl rfl rfl rfl (cells := [.bool (ngB (x.fdiv y)), .slice A8 (digs 10000 ((x.fdiv y)).natAbs).length c8]) rfl BA8 rfl (by kernel_rfl) (one2 rfl rfl) fun w3 hg3 BN3 => ?_
          replace q6 := off q6 BA8 no_ints2 hg3
          replace k0s := off k0s BA8 no_ints2 hg3
          replace k0 : IsR w3 (.agg #[.bool true, .slice A0 (digs 10000 (x).natAbs).length c0]) (x) := isR_mk k0s rfl hs0.symm
          replace B0 := B0.grown hg3 (by omega)
          replace k1s := off k1s BA8 no_ints2 hg3
          replace k1 : IsR w3 (.agg #[.bool false, .slice A1 (digs 10000 (y).natAbs).length c1]) (y) := isR_mk k1s rfl hs1.symm
          replace B1 := B1.grown hg3 (by omega)
          replace B2 := B2.grown hg3 (by omega)
          replace B3 := B3.grown hg3 (by omega)
          replace bb := bb.trans ((Below.refl _ _).grown hg3 bb.size (fun g hg => by injection hg with hg; omega))
          have hsz3 := bb.size
          have Bq : Blk w3 (g7) _ _ := BN3
          have kqs := q6
          have kq : IsR w3 (.agg #[.bool (ngB (x.fdiv y)), .slice A8 (digs 10000 ((x.fdiv y)).natAbs).length c8]) ((x.fdiv y)) := ⟨_, rfl, kqs⟩
          refine ops_done ?_
          go_upto_region 5 with (fail)
          refine flow 6 [Pd.eq (.agg #[.bool (ngB (x.fdiv y)), .slice A8 (digs 10000 ((x.fdiv y)).natAbs).length c8]), Pd.eq (.agg #[.bool true, .slice A0 (digs 10000 (x).natAbs).length c0]), Pd.eq (.agg #[.bool (ngB (x.fdiv y)), .slice A8 (digs 10000 ((x.fdiv y)).natAbs).length c8]), Pd.eq (.agg #[.bool false, .slice A1 (digs 10000 (y).natAbs).length c1]), pr ((x.fdiv y * y)), pr ((x.fmod y))] (by kernel_rfl) (by kernel_rfl) ?ob17 ?done17
          case ob17 =>
            refine And.intro (ob_load rfl (wt_none rfl) (ev_far rfl rfl) (fun w2 hb => run_loadAll Tryd.underlying30 rfl (by kernel_rfl) (Bq.drew.below hb)) (fun _ _ => rfl)) ?_
            refine And.intro (ob_load rfl (wt_none rfl) (ev_far rfl rfl) (fun w2 hb => run_loadAll Tryd.underlying30 rfl (by kernel_rfl) (B0.drew.below hb)) (fun _ _ => rfl)) ?_
            refine And.intro (ob_load rfl (wt_none rfl) (ev_far rfl rfl) (fun w2 hb => run_loadAll Tryd.underlying30 rfl (by kernel_rfl) (Bq.drew.below hb)) (fun _ _ => rfl)) ?_
            refine And.intro (ob_load rfl (wt_none rfl) (ev_far rfl rfl) (fun w2 hb => run_loadAll Tryd.underlying30 rfl (by kernel_rfl) (B1.drew.below hb)) (fun _ _ => rfl)) ?_
            refine And.intro (ob_call2 rfl Tryd.func17 (by kernel_rfl) (wt_none rfl) (ev_dep (j := 2) (by kernel_rfl) rfl rfl) (ev_dep (j := 3) (by kernel_rfl) rfl rfl) (fun w2 u0 u1 hb h0 h1 => by obtain rfl := h0; obtain rfl := h1; exact (rmul_any _ _ _ _ _ (kq.drew.below hb) (k1.drew.below hb) (Nat.le_trans lq (by decide)) (Nat.le_trans hl2 (by decide))).mono fun e w3 h => RetR.pd h)) ?_
            refine And.intro (ob_call2 rfl Tryd.func15 (by kernel_rfl) (wt_none rfl) (ev_dep (j := 1) (by kernel_rfl) rfl rfl) (ev_dep (j := 4) (by kernel_rfl) rfl rfl) (fun w2 u0 u1 hb h0 h1 => by obtain rfl := h0; exact (HFM.out ▸ rsub_any _ _ _ _ _ (k0.drew.below hb) h1 (Nat.le_trans hl (by decide)) lqy).mono fun e w3 h => RetR.pd h)) ?_
            trivial
          case done17 =>
            refine fun w4 hb4 v0 h0 v1 h1 v2 h2 v3 h3 v4 h4 v5 h5 b hbf => ?_
            obtain rfl := h0; obtain rfl := h1; obtain rfl := h2; obtain rfl := h3
            have q4 := h4
            have q5 := h5
            simp only [Act.put, List.setIfInBounds_toArray, List.set_cons_zero, List.set_cons_succ] at hbf
            subst hbf
            replace B0 := B0.below hb4
            replace B1 := B1.below hb4
            replace B2 := B2.below hb4
            replace B3 := B3.below hb4
            replace Bq := Bq.below hb4
            replace k0s := k0s.below hb4
            replace k1s := k1s.below hb4
            replace kqs := kqs.below hb4
            replace k0 := k0.below hb4
            replace k1 := k1.below hb4
            replace kq := kq.below hb4
            replace bb := bb.trans (hb4.mono bb.size)
            have hsz4 := bb.size
            have q0 := kqs
            obtain ⟨u5, rfl, q5⟩ := q5
            obtain ⟨A9, c9, rfl, _⟩ := id q5
            refine any_store (i := 6) (by kernel_rfl) rfl rfl rfl rfl rfl rfl (cells := [.bool (ngB (x.fdiv y)), .slice A8 (digs 10000 ((x.fdiv y)).natAbs).length c8]) rfl B2 rfl (by kernel_rfl) (one2 rfl rfl) fun w5 hg5 BN5 => ?_
            replace q5 := off q5 B2 no_ints2 hg5
            replace q0 := off q0 B2 no_ints2 hg5
            replace k0s := off k0s B2 no_ints2 hg5
            replace k0 : IsR w5 (.agg #[.bool true, .slice A0 (digs 10000 (x).natAbs).length c0]) (x) := isR_mk k0s rfl hs0.symm
            replace B0 := B0.grown hg5 (by omega)
            replace k1s := off k1s B2 no_ints2 hg5
            replace k1 : IsR w5 (.agg #[.bool false, .slice A1 (digs 10000 (y).natAbs).length c1]) (y) := isR_mk k1s rfl hs1.symm
            replace B1 := B1.grown hg5 (by omega)
            replace B3 := B3.grown hg5 (by omega)
            replace kqs := off kqs B2 no_ints2 hg5
            replace kq : IsR w5 (.agg #[.bool (ngB (x.fdiv y)), .slice A8 (digs 10000 ((x.fdiv y)).natAbs).length c8]) ((x.fdiv y)) := ⟨_, rfl, kqs⟩
            replace Bq := Bq.grown hg5 (by omega)
            replace bb := bb.trans ((Below.refl _ _).grown hg5 bb.size (fun g hg => by injection hg with hg; omega))
            have hsz5 := bb.size
            have Br1 : Blk w5 (w.heap.size + 1 + 1) _ _ := BN5
            have kr1s := q0
            have kr1 : IsR w5 (.agg #[.bool (ngB (x.fdiv y)), .slice A8 (digs 10000 ((x.fdiv y)).natAbs).length c8]) ((x.fdiv y)) := ⟨_, rfl, kr1s⟩
            refine any_store (i := 7) (by kernel_rfl) rfl rfl rfl rfl rfl rfl (cells := [.bool (ngB (x.fmod y)), .slice A9 (digs 10000 ((x.fmod y)).natAbs).length c9]) rfl B3 rfl (by kernel_rfl) (one2 rfl rfl) fun w6 hg6 BN6 => ?_
            replace q5 := off q5 B3 no_ints2 hg6
            replace k0s := off k0s B3 no_ints2 hg6
            replace k0 : IsR w6 (.agg #[.bool true, .slice A0 (digs 10000 (x).natAbs).length c0]) (x) := isR_mk k0s rfl hs0.symm
            replace B0 := B0.grown hg6 (by omega)
            replace k1s := off k1s B3 no_ints2 hg6
            replace k1 : IsR w6 (.agg #[.bool false, .slice A1 (digs 10000 (y).natAbs).length c1]) (y) := isR_mk k1s rfl hs1.symm
            replace B1 := B1.grown hg6 (by omega)
            replace kr1s := off kr1s B3 no_ints2 hg6
            replace kr1 : IsR w6 (.agg #[.bool (ngB (x.fdiv y)), .slice A8 (digs 10000 ((x.fdiv y)).natAbs).length c8]) ((x.fdiv y)) := ⟨_, rfl, kr1s⟩
            replace Br1 := Br1.grown hg6 (by omega)
            replace kqs := off kqs B3 no_ints2 hg6
            replace kq : IsR w6 (.agg #[.bool (ngB (x.fdiv y)), .slice A8 (digs 10000 ((x.fdiv y)).natAbs).length c8]) ((x.fdiv y)) := ⟨_, rfl, kqs⟩
            replace Bq := Bq.grown hg6 (by omega)
            replace bb := bb.trans ((Below.refl _ _).grown hg6 bb.size (fun g hg => by injection hg with hg; omega))
            have hsz6 := bb.size
            have Br2 : Blk w6 (w.heap.size + 1 + 1 + 1) _ _ := BN6
            have kr2s := q5
            have kr2 : IsR w6 (.agg #[.bool (ngB (x.fmod y)), .slice A9 (digs 10000 ((x.fmod y)).natAbs).length c9]) ((x.fmod y)) := ⟨_, rfl, kr2s⟩
            refine any_done (by kernel_rfl) ?_
            obtain ⟨y00, y01, _, _⟩ := Blk.two Br1
            obtain ⟨y10, y11, _, _⟩ := Blk.two Br2
            go_wp2
            exact bodyPost_ret (v := .tuple #[.agg #[.bool (ngB (x.fdiv y)), .slice A8 (digs 10000 ((x.fdiv y)).natAbs).length c8], .agg #[.bool (ngB (x.fmod y)), .slice A9 (digs 10000 ((x.fmod y)).natAbs).length c9]]) (by simp [results, Tryd.results35, go_sem, y00, y01, y10, y11]) rfl ⟨_, _, rfl, kr1, kr2, bb⟩
  · have HS := (floor_same hy (.inl (by rw [hs0, hs1]))).1
    rw [← hQ, hs0, hs1] at HS
    have HZ1 : Hid (sg false (Q) = x.fdiv y) := HS
    clear HS hQ hM hy
    go_enter Tryd.func35, Tryd.ntmps35
    go_upto_region 1 with (fail)
    obtain ⟨wx, hwx, bb, B0, B1, B2, B3, hsz⟩ := vars4 w 30 30 30 30 #[.bool true, .slice A0 (digs 10000 (x).natAbs).length c0] #[.bool true, .slice A1 (digs 10000 (y).natAbs).length c1] #[.bool false, .slice none 0 0] #[.bool false, .slice none 0 0]
    rw [hwx]
    clear hwx
    have k0s := s0.below bb
    have k0 : IsR wx (.agg #[.bool true, .slice A0 (digs 10000 (x).natAbs).length c0]) (x) := isR_mk k0s rfl hs0.symm
    have k1s := s1.below bb
    have k1 : IsR wx (.agg #[.bool true, .slice A1 (digs 10000 (y).natAbs).length c1]) (y) := isR_mk k1s rfl hs1.symm
    have hszb := bb.size
    refine flowp 10 [Pd.eq (.pointer (some ⟨w.heap.size, 1, none⟩)), Pd.eq (.slice A0 (digs 10000 (x).natAbs).length c0), Pd.eq (.pointer (some ⟨w.heap.size + 1, 1, none⟩)), Pd.eq (.slice A1 (digs 10000 (y).natAbs).length c1), pt2 .i64 (digs 10000 Q) (digs 10000 M) wx.heap.size, pt2 .i64 (digs 10000 Q) (digs 10000 M) wx.heap.size, ps .i64 (digs 10000 Q) wx.heap.size, ps .i64 (digs 10000 M) wx.heap.size, ps .i64 (digs 10000 Q) wx.heap.size, ps .i64 (digs 10000 M) wx.heap.size] (by kernel_rfl) ?ob18 ?done18
    case ob18 =>
      refine And.intro (ob_fieldAddr rfl (wt_none rfl) (ev_far rfl rfl) (fun _ => by kernel_rfl) (fun _ => rfl)) ?_
      refine And.intro (ob_load rfl (wt_none rfl) (ev_dep (j := 0) (by kernel_rfl) rfl rfl) (fun w2 hb => run_load1 Tryd.underlying28 rfl ((B0.below hb).cell 1)) (fun _ _ => rfl)) ?_
      refine And.intro (ob_fieldAddr rfl (wt_none rfl) (ev_far rfl rfl) (fun _ => by kernel_rfl) (fun _ => rfl)) ?_
      refine And.intro (ob_load rfl (wt_none rfl) (ev_dep (j := 2) (by kernel_rfl) rfl rfl) (fun w2 hb => run_load1 Tryd.underlying28 rfl ((B1.below hb).cell 1)) (fun _ _ => rfl)) ?_
      refine And.intro (ob_call2 rfl Tryd.func60 (by kernel_rfl) (wt_none rfl) (ev_dep (j := 1) (by kernel_rfl) rfl rfl) (ev_dep (j := 3) (by kernel_rfl) rfl rfl) (fun w2 u0 u1 hb h0 h1 => by obtain rfl := h0; obtain rfl := h1; exact (HQ.out ▸ HMo.out ▸ refDiv_any _ _ _ _ _ (k0s.below hb) (k1s.below hb) HL.out HL2.out HY.out).mono fun e w3 h => RetSS.pd h hb.size)) ?_
      refine And.intro (ob_move rfl (wt_none rfl) (ev_dep (j := 4) (by kernel_rfl) rfl rfl) (fun _ _ h => h)) ?_
      refine And.intro (ob_extract rfl (wt_none rfl) (ev_dep (j := 5) (by kernel_rfl) rfl rfl) (fun w2 u hu => by obtain ⟨v, u, rfl, q1, q2, q3, q4⟩ := hu; exact ⟨v, rfl, q1, q3⟩)) ?_
      refine And.intro (ob_extract rfl (wt_none rfl) (ev_dep (j := 5) (by kernel_rfl) rfl rfl) (fun w2 u hu => by obtain ⟨v, u, rfl, q1, q2, q3, q4⟩ := hu; exact ⟨u, rfl, q2, q4⟩)) ?_
      refine And.intro (ob_assign rfl (wt_none rfl) (ev_dep (j := 6) (by kernel_rfl) rfl rfl) (fun _ _ h => h)) ?_
      refine And.intro (ob_assign rfl (wt_none rfl) (ev_dep (j := 7) (by kernel_rfl) rfl rfl) (fun _ _ h => h)) ?_
      trivial
    case done18 =>
      refine fun w1 hb1 v0 h0 v1 h1 v2 h2 v3 h3 v4 h4 v5 h5 v6 h6 v7 h7 v8 h8 v9 h9 b hbf => ?_
      obtain rfl := h0; obtain rfl := h1; obtain rfl := h2; obtain rfl := h3
      clear h4
      clear h5
      obtain ⟨q6, f6⟩ := h6
      obtain ⟨q7, f7⟩ := h7
      obtain ⟨q8, f8⟩ := h8
      obtain ⟨q9, f9⟩ := h9
      simp only [Act.put, List.setIfInBounds_toArray, List.set_cons_zero, List.set_cons_succ] at hbf
      subst hbf
      replace B0 := B0.below hb1
      replace B1 := B1.below hb1
      replace B2 := B2.below hb1
      replace B3 := B3.below hb1
      replace k0s := k0s.below hb1
      replace k1s := k1s.below hb1
      replace k0 := k0.below hb1
      replace k1 := k1.below hb1
      replace bb := bb.trans (hb1.mono bb.size)
      have hsz1 := bb.size
      obtain ⟨A6, c6, rfl, _⟩ := id q8
      have kq := q8
      have kqf := f8
      obtain ⟨A7, c7, rfl, _⟩ := id q9
      have kr := q9
      have krf := f9
      refine ops_done ?_
      obtain ⟨x00, x01, _, _⟩ := Blk.two B0
      obtain ⟨x10, x11, _, _⟩ := Blk.two B1
      go_upto_region 4 with (fail)
      have lt1_2 := Blk.lt B0
      have lt1_3 := Blk.lt B1
      have lt1_4 := Blk.lt B2
      have lt1_5 := Blk.lt B3
      refine flowp 8 [Pd.eq (.pointer (some ⟨w.heap.size, 0, none⟩)), Pd.eq (.bool true), Pd.eq (.pointer (some ⟨w.heap.size + 1, 0, none⟩)), Pd.eq (.bool true), Pd.eq (.bool false), Pd.eq (.slice A6 (digs 10000 Q).length c6), pr ((x.fdiv y)), pn 30 #[.bool false, .slice none 0 0] w1.heap.size] (by kernel_rfl) ?ob19 ?done19
      case ob19 =>
        refine And.intro (ob_fieldAddr rfl (wt_none rfl) (ev_far rfl rfl) (fun _ => by kernel_rfl) (fun _ => rfl)) ?_
        refine And.intro (ob_load rfl (wt_none rfl) (ev_dep (j := 0) (by kernel_rfl) rfl rfl) (fun w2 hb => run_load1 Tryd.underlying4 rfl ((B0.below hb).cell 0)) (fun _ _ => rfl)) ?_
        refine And.intro (ob_fieldAddr rfl (wt_none rfl) (ev_far rfl rfl) (fun _ => by kernel_rfl) (fun _ => rfl)) ?_
        refine And.intro (ob_load rfl (wt_none rfl) (ev_dep (j := 2) (by kernel_rfl) rfl rfl) (fun w2 hb => run_load1 Tryd.underlying4 rfl ((B1.below hb).cell 0)) (fun _ _ => rfl)) ?_
        refine And.intro (ob_bin rfl (wt_none rfl) (ev_dep (j := 1) (by kernel_rfl) rfl rfl) (ev_dep (j := 3) (by kernel_rfl) rfl rfl) (fun _ _ _ hx hy => ⟨.bool (!(true == true)), by rw [hx, hy]; exact bin_neq_bool _ _ _ _ Tryd.underlying4 _, rfl⟩)) ?_
        refine And.intro (ob_move rfl (wt_none rfl) (ev_far rfl rfl) (fun _ _ h => h)) ?_
        refine And.intro (ob_call2 rfl Tryd.func40 (by kernel_rfl) (wt_none rfl) (ev_dep (j := 4) (by kernel_rfl) rfl rfl) (ev_dep (j := 5) (by kernel_rfl) rfl rfl) (fun w2 u0 u1 hb h0 h1 => by obtain rfl := h0; obtain rfl := h1; exact made_pd _ _ _ (x.fdiv y) _ (kq.below hb) HZ1.out)) ?_
        refine And.intro (ob_alloc (z := .agg #[.bool false, .slice none 0 0]) rfl rfl (fun _ => by kernel_rfl) (fun _ _ hB h => ⟨_, rfl, hB, h⟩)) ?_
        trivial
      case done19 =>
        refine fun w2 hb2 v0 h0 v1 h1 v2 h2 v3 h3 v4 h4 v5 h5 v6 h6 v7 h7 d7 b hbf => ?_
        obtain rfl := h0; obtain rfl := h1; obtain rfl := h2; obtain rfl := h3; obtain rfl := h4; obtain rfl := h5
        have q6 := h6
        obtain ⟨g7, rfl, hg7, B7⟩ := h7
        simp only [Act.put, List.setIfInBounds_toArray, List.set_cons_zero, List.set_cons_succ] at hbf
        subst hbf
        replace B0 := B0.below hb2
        replace B1 := B1.below hb2
        replace B2 := B2.below hb2
        replace B3 := B3.below hb2
        replace k0s := k0s.below hb2
        replace k1s := k1s.below hb2
        replace k0 := k0.below hb2
        replace k1 := k1.below hb2
        replace kq := kq.below hb2
        replace bb := bb.trans (hb2.mono bb.size)
        have hsz2 := bb.size
        have BA8 := B7
        obtain ⟨u6, rfl, q6⟩ := q6
        obtain ⟨A8, c8, rfl, _⟩ := id q6
        refine ops_store (i := 8) rfl rfl rfl rfl rfl rfl (cells := [.bool (ngB (x.fdiv y)), .slice A8 (digs 10000 ((x.fdiv y)).natAbs).length c8]) rfl BA8 rfl (by kernel_rfl) (one2 rfl rfl) fun w3 hg3 BN3 => ?_
        replace q6 := off q6 BA8 no_ints2 hg3
        replace k0s := off k0s BA8 no_ints2 hg3
        replace k0 : IsR w3 (.agg #[.bool true, .slice A0 (digs 10000 (x).natAbs).length c0]) (x) := isR_mk k0s rfl hs0.symm
        replace B0 := B0.grown hg3 (by omega)
        replace k1s := off k1s BA8 no_ints2 hg3
        replace k1 : IsR w3 (.agg #[.bool true, .slice A1 (digs 10000 (y).natAbs).length c1]) (y) := isR_mk k1s rfl hs1.symm
        replace B1 := B1.grown hg3 (by omega)
        replace B2 := B2.grown hg3 (by omega)
        replace B3 := B3.grown hg3 (by omega)
        replace bb := bb.trans ((Below.refl _ _).grown hg3 bb.size (fun g hg => by injection hg with hg; omega))
        have hsz3 := bb.size
        have Bq : Blk w3 (g7) _ _ := BN3
        have kqs := q6
        have kq : IsR w3 (.agg #[.bool (ngB (x.fdiv y)), .slice A8 (digs 10000 ((x.fdiv y)).natAbs).length c8]) ((x.fdiv y)) := ⟨_, rfl, kqs⟩
        refine ops_done ?_
        go_upto_region 5 with (fail)
        refine flow 6 [Pd.eq (.agg #[.bool (ngB (x.fdiv y)), .slice A8 (digs 10000 ((x.fdiv y)).natAbs).length c8]), Pd.eq (.agg #[.bool true, .slice A0 (digs 10000 (x).natAbs).length c0]), Pd.eq (.agg #[.bool (ngB (x.fdiv y)), .slice A8 (digs 10000 ((x.fdiv y)).natAbs).length c8]), Pd.eq (.agg #[.bool true, .slice A1 (digs 10000 (y).natAbs).length c1]), pr ((x.fdiv y * y)), pr ((x.fmod y))] (by kernel_rfl) (by kernel_rfl) ?ob20 ?done20
        case ob20 =>
          refine And.intro (ob_load rfl (wt_none rfl) (ev_far rfl rfl) (fun w2 hb => run_loadAll Tryd.underlying30 rfl (by kernel_rfl) (Bq.drew.below hb)) (fun _ _ => rfl)) ?_
          refine And.intro (ob_load rfl (wt_none rfl) (ev_far rfl rfl) (fun w2 hb => run_loadAll Tryd.underlying30 rfl (by kernel_rfl) (B0.drew.below hb)) (fun _ _ => rfl)) ?_
          refine And.intro (ob_load rfl (wt_none rfl) (ev_far rfl rfl) (fun w2 hb => run_loadAll Tryd.underlying30 rfl (by kernel_rfl) (Bq.drew.below hb)) (fun _ _ => rfl)) ?_
          refine And.intro (ob_load rfl (wt_none rfl) (ev_far rfl rfl) (fun w2 hb => run_loadAll Tryd.underlying30 rfl (by kernel_rfl) (B1.drew.below hb)) (fun _ _ => rfl)) ?_
          refine And.intro (ob_call2 rfl Tryd.func17 (by kernel_rfl) (wt_none rfl) (ev_dep (j := 2) (by kernel_rfl) rfl rfl) (ev_dep (j := 3) (by kernel_rfl) rfl rfl) (fun w2 u0 u1 hb h0 h1 => by obtain rfl := h0; obtain rfl := h1; exact (rmul_any _ _ _ _ _ (kq.drew.below hb) (k1.drew.below hb) (Nat.le_trans lq (by decide)) (Nat.le_trans hl2 (by decide))).mono fun e w3 h => RetR.pd h)) ?_
          refine And.intro (ob_call2 rfl Tryd.func15 (by kernel_rfl) (wt_none rfl) (ev_dep (j := 1) (by kernel_rfl) rfl rfl) (ev_dep (j := 4) (by kernel_rfl) rfl rfl) (fun w2 u0 u1 hb h0 h1 => by obtain rfl := h0; exact (HFM.out ▸ rsub_any _ _ _ _ _ (k0.drew.below hb) h1 (Nat.le_trans hl (by decide)) lqy).mono fun e w3 h => RetR.pd h)) ?_
          trivial
        case done20 =>
          refine fun w4 hb4 v0 h0 v1 h1 v2 h2 v3 h3 v4 h4 v5 h5 b hbf => ?_
          obtain rfl := h0; obtain rfl := h1; obtain rfl := h2; obtain rfl := h3
          have q4 := h4
          have q5 := h5
          simp only [Act.put, List.setIfInBounds_toArray, List.set_cons_zero, List.set_cons_succ] at hbf
          subst hbf
          replace B0 := B0.below hb4
          replace B1 := B1.below hb4
          replace B2 := B2.below hb4
          replace B3 := B3.below hb4
          replace Bq := Bq.below hb4
          replace k0s := k0s.below hb4
          replace k1s := k1s.below hb4
          replace kqs := kqs.below hb4
          replace k0 := k0.below hb4
          replace k1 := k1.below hb4
          replace kq := kq.below hb4
          replace bb := bb.trans (hb4.mono bb.size)
          have hsz4 := bb.size
          have q0 := kqs
          obtain ⟨u5, rfl, q5⟩ := q5
          obtain ⟨A9, c9, rfl, _⟩ := id q5
          refine any_store (i := 6) (by kernel_rfl) rfl rfl rfl rfl rfl rfl (cells := [.bool (ngB (x.fdiv y)), .slice A8 (digs 10000 ((x.fdiv y)).natAbs).length c8]) rfl B2 rfl (by kernel_rfl) (one2 rfl rfl) fun w5 hg5 BN5 => ?_
          replace q5 := off q5 B2 no_ints2 hg5
          replace q0 := off q0 B2 no_ints2 hg5
          replace k0s := off k0s B2 no_ints2 hg5
          replace k0 : IsR w5 (.agg #[.bool true, .slice A0 (digs 10000 (x).natAbs).length c0]) (x) := isR_mk k0s rfl hs0.symm
          replace B0 := B0.grown hg5 (by omega)
          replace k1s := off k1s B2 no_ints2 hg5
          replace k1 : IsR w5 (.agg #[.bool true, .slice A1 (digs 10000 (y).natAbs).length c1]) (y) := isR_mk k1s rfl hs1.symm
          replace B1 := B1.grown hg5 (by omega)
          replace B3 := B3.grown hg5 (by omega)
          replace kqs := off kqs B2 no_ints2 hg5
          replace kq : IsR w5 (.agg #[.bool (ngB (x.fdiv y)), .slice A8 (digs 10000 ((x.fdiv y)).natAbs).length c8]) ((x.fdiv y)) := ⟨_, rfl, kqs⟩
          replace Bq := Bq.grown hg5 (by omega)
          replace bb := bb.trans ((Below.refl _ _).grown hg5 bb.size (fun g hg => by injection hg with hg; omega))
          have hsz5 := bb.size
          have Br1 : Blk w5 (w.heap.size + 1 + 1) _ _ := BN5
          have kr1s := q0
          have kr1 : IsR w5 (.agg #[.bool (ngB (x.fdiv y)), .slice A8 (digs 10000 ((x.fdiv y)).natAbs).length c8]) ((x.fdiv y)) := ⟨_, rfl, kr1s⟩
          refine any_store (i := 7) (by kernel_rfl) rfl rfl rfl rfl rfl rfl (cells := [.bool (ngB (x.fmod y)), .slice A9 (digs 10000 ((x.fmod y)).natAbs).length c9]) rfl B3 rfl (by kernel_rfl) (one2 rfl rfl) fun w6 hg6 BN6 => ?_
          replace q5 := off q5 B3 no_ints2 hg6
          replace k0s := off k0s B3 no_ints2 hg6
          replace k0 : IsR w6 (.agg #[.bool true, .slice A0 (digs 10000 (x).natAbs).length c0]) (x) := isR_mk k0s rfl hs0.symm
          replace B0 := B0.grown hg6 (by omega)
          replace k1s := off k1s B3 no_ints2 hg6
          replace k1 : IsR w6 (.agg #[.bool true, .slice A1 (digs 10000 (y).natAbs).length c1]) (y) := isR_mk k1s rfl hs1.symm
          replace B1 := B1.grown hg6 (by omega)
          replace kr1s := off kr1s B3 no_ints2 hg6
          replace kr1 : IsR w6 (.agg #[.bool (ngB (x.fdiv y)), .slice A8 (digs 10000 ((x.fdiv y)).natAbs).length c8]) ((x.fdiv y)) := ⟨_, rfl, kr1s⟩
          replace Br1 := Br1.grown hg6 (by omega)
          replace kqs := off kqs B3 no_ints2 hg6
          replace kq : IsR w6 (.agg #[.bool (ngB (x.fdiv y)), .slice A8 (digs 10000 ((x.fdiv y)).natAbs).length c8]) ((x.fdiv y)) := ⟨_, rfl, kqs⟩
          replace Bq := Bq.grown hg6 (by omega)
          replace bb := bb.trans ((Below.refl _ _).grown hg6 bb.size (fun g hg => by injection hg with hg; omega))
          have hsz6 := bb.size
          have Br2 : Blk w6 (w.heap.size + 1 + 1 + 1) _ _ := BN6
          have kr2s := q5
          have kr2 : IsR w6 (.agg #[.bool (ngB (x.fmod y)), .slice A9 (digs 10000 ((x.fmod y)).natAbs).length c9]) ((x.fmod y)) := ⟨_, rfl, kr2s⟩
          refine any_done (by kernel_rfl) ?_
          obtain ⟨y00, y01, _, _⟩ := Blk.two Br1
          obtain ⟨y10, y11, _, _⟩ := Blk.two Br2
          go_wp2
          exact bodyPost_ret (v := .tuple #[.agg #[.bool (ngB (x.fdiv y)), .slice A8 (digs 10000 ((x.fdiv y)).natAbs).length c8], .agg #[.bool (ngB (x.fmod y)), .slice A9 (digs 10000 ((x.fmod y)).natAbs).length c9]]) (by simp [results, Tryd.results35, go_sem, y00, y01, y10, y11]) rfl ⟨_, _, rfl, kr1, kr2, bb⟩
end Go.Proofs.YtcmjbkgcknimlaaDoor.whl
