/- The document's own fractions: Add, Sub, Sign, Cmp. Condition: as each says. -/
import Derived.Test.YtbebmknfecehnaaGreatRatC
namespace Go.Proofs.YtbebmknfecehnaaGreat.rat
open Go.RowKit Go.Proofs.YtbebmknfecehnaaGreat.num Go.Proofs.YtbebmknfecehnaaGreat.mem Go.Proofs.YtbebmknfecehnaaGreat.nat Go.Proofs.YtbebmknfecehnaaGreat.txt Go.Proofs.YtbebmknfecehnaaGreat.str Go.Proofs.YtbebmknfecehnaaGreat.flow Go.Proofs.YtbebmknfecehnaaGreat.whl
set_option linter.unusedVariables false
set_option maxHeartbeats 1600000 in
set_option maxRecDepth 100000 in
theorem qadd_any (a0 : Value) (x : Rat) (a1 : Value) (y : Rat) (w : World) (h0 : IsP w a0 x) (h1 : IsP w a1 y) (hl : lenQ x 5000) (hl2 : lenQ y 5000) :
    Calls Tryz.prog 11 #[a0, a1] w (RetPF (x + y) w) := by
  obtain ⟨u0, t0, rfl, s0, r0⟩ := h0
  obtain ⟨A0, c0, rfl, _⟩ := id s0
  obtain ⟨D0, e0, rfl, _⟩ := id r0
  obtain ⟨u1, t1, rfl, s1, r1⟩ := h1
  obtain ⟨A1, c1, rfl, _⟩ := id s1
  obtain ⟨D1, e1, rfl, _⟩ := id r1
  have HA : Hid (mkRat (x.num * y.den + y.num * x.den) (x.den * y.den) = x + y) := (Rat.add_def' x y).symm
  have lx1 := hl.1
  have lx2 : lenZ ((x.den : Nat) : Int) ≤ 5000 := by rw [lenD]; exact hl.2
  have ly1 := hl2.1
  have ly2 : lenZ ((y.den : Nat) : Int) ≤ 5000 := by rw [lenD]; exact hl2.2
  have lp : lenZ (x.num * ((y.den : Nat) : Int)) ≤ 10000 := lenZ_mul_le lx1 ly2
  have lq : lenZ (y.num * ((x.den : Nat) : Int)) ≤ 10000 := lenZ_mul_le ly1 lx2
  have HLZ : Hid (lenZ (x.num * ((y.den : Nat) : Int) + y.num * ((x.den : Nat) : Int)) ≤ 30000) := Nat.le_trans (lenZ_add_le lp lq) (by decide)
  have HLD : Hid ((digs 4294967296 (x.den * y.den)).length ≤ 30000) := by show _ ≤ _; have := mul_len x.den y.den; have h1 := hl.2; have h2 := hl2.2; omega
  go_enter Tryz.func11, Tryz.ntmps11
  go_upto_region 1 with (fail)
  obtain ⟨wx, hwx, bb, B0, B1, BR0, hsz⟩ := vars3 w 34 34 34 #[.bool (ngB (x).num), .slice A0 (digs 10000 (x).num.natAbs).length c0, .slice D0 (digs 10000 (x).den).length e0] #[.bool (ngB (y).num), .slice A1 (digs 10000 (y).num.natAbs).length c1, .slice D1 (digs 10000 (y).den).length e1] #[.bool false, .slice none 0 0, .slice none 0 0]
  rw [hwx]
  clear hwx
  have k0s := s0.below bb
  have k0d := r0.below bb
  have k0z : IsR wx (.agg #[.bool (ngB (x).num), .slice A0 (digs 10000 (x).num.natAbs).length c0]) (x).num := ⟨_, rfl, k0s⟩
  have k0 : IsP wx (.agg #[.bool (ngB (x).num), .slice A0 (digs 10000 (x).num.natAbs).length c0, .slice D0 (digs 10000 (x).den).length e0]) (x) := ⟨_, _, rfl, k0s, k0d⟩
  have k1s := s1.below bb
  have k1d := r1.below bb
  have k1z : IsR wx (.agg #[.bool (ngB (y).num), .slice A1 (digs 10000 (y).num.natAbs).length c1]) (y).num := ⟨_, rfl, k1s⟩
  have k1 : IsP wx (.agg #[.bool (ngB (y).num), .slice A1 (digs 10000 (y).num.natAbs).length c1, .slice D1 (digs 10000 (y).den).length e1]) (y) := ⟨_, _, rfl, k1s, k1d⟩
  have hsz0 := bb.size
  have sB := bb.size
  have lt10_2 := Blk.lt B0
  have lt10_3 := Blk.lt B1
  have lt10_4 := Blk.lt BR0
  refine flow 14 [Pd.eq (.pointer (some ⟨w.heap.size, 0, none⟩)), Pd.eq (.agg #[.bool (ngB (x).num), .slice A0 (digs 10000 (x).num.natAbs).length c0]), Pd.eq (.pointer (some ⟨w.heap.size + 1, 2, none⟩)), Pd.eq (.slice D1 (digs 10000 (y).den).length e1), pr (((y.den : Nat) : Int)), pr ((x.num * ((y.den : Nat) : Int))), Pd.eq (.pointer (some ⟨w.heap.size + 1, 0, none⟩)), Pd.eq (.agg #[.bool (ngB (y).num), .slice A1 (digs 10000 (y).num.natAbs).length c1]), Pd.eq (.pointer (some ⟨w.heap.size, 2, none⟩)), Pd.eq (.slice D0 (digs 10000 (x).den).length e0), pr (((x.den : Nat) : Int)), pr ((y.num * ((x.den : Nat) : Int))), pn 32 #[.bool false, .slice none 0 0] wx.heap.size, pn 32 #[.bool false, .slice none 0 0] wx.heap.size] (by kernel_rfl) (by kernel_rfl) ?ob1 ?done1
  case ob1 =>
    refine And.intro (ob_fieldAddr rfl (wt_none rfl) (ev_far rfl rfl) (fun _ => by kernel_rfl) (fun _ => rfl)) ?_
    refine And.intro (ob_load rfl (wt_none rfl) (ev_dep (j := 0) (by kernel_rfl) rfl rfl) (fun w2 hb => run_loadPart Tryz.underlying32 rfl (by kernel_rfl) (B0.drew.below hb) rfl) (fun _ _ => rfl)) ?_
    refine And.intro (ob_fieldAddr rfl (wt_none rfl) (ev_far rfl rfl) (fun _ => by kernel_rfl) (fun _ => rfl)) ?_
    refine And.intro (ob_load rfl (wt_none rfl) (ev_dep (j := 2) (by kernel_rfl) rfl rfl) (fun w2 hb => run_load1 Tryz.underlying30 rfl ((B1.drew.below hb).cell 2)) (fun _ _ => rfl)) ?_
    refine And.intro (ob_build1b rfl (wt_none rfl) (ev_dep (j := 3) (by kernel_rfl) rfl rfl) (fun w2 u hb hu => by obtain rfl := hu; exact ⟨.agg #[.bool false, .slice D1 (digs 10000 (y).den).length e1], by kernel_rfl, isR_mk (k1d.drew.below hb) (Int.natAbs_natCast _) (ngB_of_pos (by omega)).symm⟩)) ?_
    refine And.intro (ob_call2 rfl Tryz.func46 (by kernel_rfl) (wt_none rfl) (ev_dep (j := 1) (by kernel_rfl) rfl rfl) (ev_dep (j := 4) (by kernel_rfl) rfl rfl) (fun w2 u0 u1 hb h0 h1 => by obtain rfl := h0; exact (rmul_any _ _ _ _ _ (k0z.drew.below hb) h1 (Nat.le_trans lx1 (by decide)) (Nat.le_trans ly2 (by decide))).mono fun e w3 h => RetR.pd h)) ?_
    refine And.intro (ob_fieldAddr rfl (wt_none rfl) (ev_far rfl rfl) (fun _ => by kernel_rfl) (fun _ => rfl)) ?_
    refine And.intro (ob_load rfl (wt_none rfl) (ev_dep (j := 6) (by kernel_rfl) rfl rfl) (fun w2 hb => run_loadPart Tryz.underlying32 rfl (by kernel_rfl) (B1.drew.below hb) rfl) (fun _ _ => rfl)) ?_
    refine And.intro (ob_fieldAddr rfl (wt_none rfl) (ev_far rfl rfl) (fun _ => by kernel_rfl) (fun _ => rfl)) ?_
    refine And.intro (ob_load rfl (wt_none rfl) (ev_dep (j := 8) (by kernel_rfl) rfl rfl) (fun w2 hb => run_load1 Tryz.underlying30 rfl ((B0.drew.below hb).cell 2)) (fun _ _ => rfl)) ?_
    refine And.intro (ob_build1b rfl (wt_none rfl) (ev_dep (j := 9) (by kernel_rfl) rfl rfl) (fun w2 u hb hu => by obtain rfl := hu; exact ⟨.agg #[.bool false, .slice D0 (digs 10000 (x).den).length e0], by kernel_rfl, isR_mk (k0d.drew.below hb) (Int.natAbs_natCast _) (ngB_of_pos (by omega)).symm⟩)) ?_
    refine And.intro (ob_call2 rfl Tryz.func46 (by kernel_rfl) (wt_none rfl) (ev_dep (j := 7) (by kernel_rfl) rfl rfl) (ev_dep (j := 10) (by kernel_rfl) rfl rfl) (fun w2 u0 u1 hb h0 h1 => by obtain rfl := h0; exact (rmul_any _ _ _ _ _ (k1z.drew.below hb) h1 (Nat.le_trans ly1 (by decide)) (Nat.le_trans lx2 (by decide))).mono fun e w3 h => RetR.pd h)) ?_
    refine And.intro (ob_alloc (z := .agg #[.bool false, .slice none 0 0]) rfl rfl (fun _ => by kernel_rfl) (fun _ _ hB h => ⟨_, rfl, hB, h⟩)) ?_
    refine And.intro (ob_alloc (z := .agg #[.bool false, .slice none 0 0]) rfl rfl (fun _ => by kernel_rfl) (fun _ _ hB h => ⟨_, rfl, hB, h⟩)) ?_
    trivial
  case done1 =>
    refine fun w11 hb11 v0 h0 v1 h1 v2 h2 v3 h3 v4 h4 v5 h5 v6 h6 v7 h7 v8 h8 v9 h9 v10 h10 v11 h11 v12 h12 d12 v13 h13 d13 b hbf => ?_
    obtain rfl := h0; obtain rfl := h1; obtain rfl := h2; obtain rfl := h3; obtain rfl := h6; obtain rfl := h7; obtain rfl := h8; obtain rfl := h9
    have q4 := h4
    have q5 := h5
    have q10 := h10
    have q11 := h11
    obtain ⟨g1_12, rfl, hg12, B12⟩ := h12
    obtain ⟨g1_13, rfl, hg13, B13⟩ := h13
    simp only [Act.put, List.setIfInBounds_toArray, List.set_cons_zero, List.set_cons_succ] at hbf
    subst hbf
    replace B0 := B0.below hb11
    replace k0s := k0s.below hb11
    replace k0d := k0d.below hb11
    replace k0z := k0z.below hb11
    replace k0 := k0.below hb11
    replace B1 := B1.below hb11
    replace k1s := k1s.below hb11
    replace k1d := k1d.below hb11
    replace k1z := k1z.below hb11
    replace k1 := k1.below hb11
    replace BR0 := BR0.below hb11
    replace bb := bb.trans (hb11.mono bb.size)
    have hsz11 := bb.size
    have BA5 := B12
    have BA6 := B13
    have hne12_13 : g1_12 ≠ g1_13 := fun e => d13 (.pointer (some ⟨g1_12, 0, none⟩)) (by simp) (by rw [e])
    obtain ⟨u5, rfl, q5⟩ := q5
    obtain ⟨A5, c5, rfl, _⟩ := id q5
    obtain ⟨u11, rfl, q11⟩ := q11
    obtain ⟨A6, c6, rfl, _⟩ := id q11
    refine any_store (i := 14) (by kernel_rfl) rfl rfl rfl rfl rfl rfl (cells := [.bool (ngB (x.num * ((y.den : Nat) : Int))), .slice A5 (digs 10000 ((x.num * ((y.den : Nat) : Int))).natAbs).length c5]) rfl BA5 rfl (by kernel_rfl) (one2 rfl rfl) fun w12 hg12 BN12 => ?_
    replace q11 := off q11 BA5 no_ints2 hg12
    replace q5 := off q5 BA5 no_ints2 hg12
    replace k0s := off k0s BA5 no_ints2 hg12
    replace k0d := off k0d BA5 no_ints2 hg12
    replace k0z : IsR w12 (.agg #[.bool (ngB (x).num), .slice A0 (digs 10000 (x).num.natAbs).length c0]) ((x).num) := ⟨_, rfl, k0s⟩
    replace k0 : IsP w12 (.agg #[.bool (ngB (x).num), .slice A0 (digs 10000 (x).num.natAbs).length c0, .slice D0 (digs 10000 (x).den).length e0]) (x) := ⟨_, _, rfl, k0s, k0d⟩
    replace B0 := B0.grown hg12 (by omega)
    replace k1s := off k1s BA5 no_ints2 hg12
    replace k1d := off k1d BA5 no_ints2 hg12
    replace k1z : IsR w12 (.agg #[.bool (ngB (y).num), .slice A1 (digs 10000 (y).num.natAbs).length c1]) ((y).num) := ⟨_, rfl, k1s⟩
    replace k1 : IsP w12 (.agg #[.bool (ngB (y).num), .slice A1 (digs 10000 (y).num.natAbs).length c1, .slice D1 (digs 10000 (y).den).length e1]) (y) := ⟨_, _, rfl, k1s, k1d⟩
    replace B1 := B1.grown hg12 (by omega)
    replace BR0 := BR0.grown hg12 (by omega)
    replace BA6 := BA6.grown hg12 (by omega)
    replace bb := bb.trans ((Below.refl _ _).grown hg12 bb.size (fun g hg => by injection hg with hg; omega))
    have hsz12 := bb.size
    have B5 : Blk w12 (g1_12) _ _ := BN12
    have k5s := q5
    have k5 : IsR w12 (.agg #[.bool (ngB (x.num * ((y.den : Nat) : Int))), .slice A5 (digs 10000 ((x.num * ((y.den : Nat) : Int))).natAbs).length c5]) ((x.num * ((y.den : Nat) : Int))) := ⟨_, rfl, k5s⟩
    refine any_store (i := 15) (by kernel_rfl) rfl rfl rfl rfl rfl rfl (cells := [.bool (ngB (y.num * ((x.den : Nat) : Int))), .slice A6 (digs 10000 ((y.num * ((x.den : Nat) : Int))).natAbs).length c6]) rfl BA6 rfl (by kernel_rfl) (one2 rfl rfl) fun w13 hg13 BN13 => ?_
    replace q11 := off q11 BA6 no_ints2 hg13
    replace k0s := off k0s BA6 no_ints2 hg13
    replace k0d := off k0d BA6 no_ints2 hg13
    replace k0z : IsR w13 (.agg #[.bool (ngB (x).num), .slice A0 (digs 10000 (x).num.natAbs).length c0]) ((x).num) := ⟨_, rfl, k0s⟩
    replace k0 : IsP w13 (.agg #[.bool (ngB (x).num), .slice A0 (digs 10000 (x).num.natAbs).length c0, .slice D0 (digs 10000 (x).den).length e0]) (x) := ⟨_, _, rfl, k0s, k0d⟩
    replace B0 := B0.grown hg13 (by omega)
    replace k1s := off k1s BA6 no_ints2 hg13
    replace k1d := off k1d BA6 no_ints2 hg13
    replace k1z : IsR w13 (.agg #[.bool (ngB (y).num), .slice A1 (digs 10000 (y).num.natAbs).length c1]) ((y).num) := ⟨_, rfl, k1s⟩
    replace k1 : IsP w13 (.agg #[.bool (ngB (y).num), .slice A1 (digs 10000 (y).num.natAbs).length c1, .slice D1 (digs 10000 (y).den).length e1]) (y) := ⟨_, _, rfl, k1s, k1d⟩
    replace B1 := B1.grown hg13 (by omega)
    replace BR0 := BR0.grown hg13 (by omega)
    replace k5s := off k5s BA6 no_ints2 hg13
    replace k5 : IsR w13 (.agg #[.bool (ngB (x.num * ((y.den : Nat) : Int))), .slice A5 (digs 10000 ((x.num * ((y.den : Nat) : Int))).natAbs).length c5]) ((x.num * ((y.den : Nat) : Int))) := ⟨_, rfl, k5s⟩
    replace B5 := B5.grown hg13 (by omega)
    replace bb := bb.trans ((Below.refl _ _).grown hg13 bb.size (fun g hg => by injection hg with hg; omega))
    have hsz13 := bb.size
    have B6 : Blk w13 (g1_13) _ _ := BN13
    have k6s := q11
    have k6 : IsR w13 (.agg #[.bool (ngB (y.num * ((x.den : Nat) : Int))), .slice A6 (digs 10000 ((y.num * ((x.den : Nat) : Int))).natAbs).length c6]) ((y.num * ((x.den : Nat) : Int))) := ⟨_, rfl, k6s⟩
    refine any_done (by kernel_rfl) ?_
    have sB := bb.size
    go_upto_region 2 with (fail)
    refine flow 9 [Pd.eq (.agg #[.bool (ngB (x.num * ((y.den : Nat) : Int))), .slice A5 (digs 10000 ((x.num * ((y.den : Nat) : Int))).natAbs).length c5]), Pd.eq (.agg #[.bool (ngB (y.num * ((x.den : Nat) : Int))), .slice A6 (digs 10000 ((y.num * ((x.den : Nat) : Int))).natAbs).length c6]), pr (((x.num * ((y.den : Nat) : Int)) + (y.num * ((x.den : Nat) : Int)))), Pd.eq (.pointer (some ⟨w.heap.size, 2, none⟩)), Pd.eq (.slice D0 (digs 10000 (x).den).length e0), Pd.eq (.pointer (some ⟨w.heap.size + 1, 2, none⟩)), Pd.eq (.slice D1 (digs 10000 (y).den).length e1), ps .i64 (digs 10000 (x.den * y.den)) w13.heap.size, ppf (x + y) w13.heap.size] (by kernel_rfl) (by kernel_rfl) ?ob2 ?done2
    case ob2 =>
      refine And.intro (ob_load rfl (wt_none rfl) (ev_far rfl rfl) (fun w2 hb => run_loadAll Tryz.underlying32 rfl (by kernel_rfl) (B5.drew.below hb)) (fun _ _ => rfl)) ?_
      refine And.intro (ob_load rfl (wt_none rfl) (ev_far rfl rfl) (fun w2 hb => run_loadAll Tryz.underlying32 rfl (by kernel_rfl) (B6.drew.below hb)) (fun _ _ => rfl)) ?_
      refine And.intro (ob_call2 rfl Tryz.func47 (by kernel_rfl) (wt_none rfl) (ev_dep (j := 0) (by kernel_rfl) rfl rfl) (ev_dep (j := 1) (by kernel_rfl) rfl rfl) (fun w2 u0 u1 hb h0 h1 => by obtain rfl := h0; obtain rfl := h1; exact (radd_any _ _ _ _ _ (k5.drew.below hb) (k6.drew.below hb) (Nat.le_trans lp (by decide)) (Nat.le_trans lq (by decide))).mono fun e w3 h => RetR.pd h)) ?_
      refine And.intro (ob_fieldAddr rfl (wt_none rfl) (ev_far rfl rfl) (fun _ => by kernel_rfl) (fun _ => rfl)) ?_
      refine And.intro (ob_load rfl (wt_none rfl) (ev_dep (j := 3) (by kernel_rfl) rfl rfl) (fun w2 hb => run_load1 Tryz.underlying30 rfl ((B0.drew.below hb).cell 2)) (fun _ _ => rfl)) ?_
      refine And.intro (ob_fieldAddr rfl (wt_none rfl) (ev_far rfl rfl) (fun _ => by kernel_rfl) (fun _ => rfl)) ?_
      refine And.intro (ob_load rfl (wt_none rfl) (ev_dep (j := 5) (by kernel_rfl) rfl rfl) (fun w2 hb => run_load1 Tryz.underlying30 rfl ((B1.drew.below hb).cell 2)) (fun _ _ => rfl)) ?_
      refine And.intro (ob_call2 rfl Tryz.func48 (by kernel_rfl) (wt_none rfl) (ev_dep (j := 4) (by kernel_rfl) rfl rfl) (ev_dep (j := 6) (by kernel_rfl) rfl rfl) (fun w2 u0 u1 hb h0 h1 => by obtain rfl := h0; obtain rfl := h1; exact (refMul_any _ _ x.den y.den _ (k0d.drew.below hb) (k1d.drew.below hb) (Nat.le_trans (dec_le _) (by have := hl.2; omega)) (Nat.le_trans (dec_le _) (by have := hl2.2; omega))).mono fun e w3 h => RetS.pd h hb.size)) ?_
      refine And.intro (ob_call2 rfl Tryz.func31 (by kernel_rfl) (wt_none rfl) (ev_dep (j := 2) (by kernel_rfl) rfl rfl) (ev_dep (j := 7) (by kernel_rfl) rfl rfl) (fun w2 u0 u1 hb h0 h1 => by exact (HA.out ▸ rlow_any _ _ _ (x.den * y.den) _ h0 h1.1 (Nat.mul_ne_zero x.den_nz y.den_nz) HLZ.out HLD.out).mono fun e w3 h => RetPF.pdf h hb.size)) ?_
      trivial
    case done2 =>
      refine fun w14 hb14 v0 h0 v1 h1 v2 h2 v3 h3 v4 h4 v5 h5 v6 h6 v7 h7 v8 h8 b hbf => ?_
      obtain rfl := h0; obtain rfl := h1; obtain rfl := h3; obtain rfl := h4; obtain rfl := h5; obtain rfl := h6
      have q2 := h2
      obtain ⟨q7, f7⟩ := h7
      obtain ⟨q8, f8⟩ := h8
      simp only [Act.put, List.setIfInBounds_toArray, List.set_cons_zero, List.set_cons_succ] at hbf
      subst hbf
      replace B0 := B0.below hb14
      replace k0s := k0s.below hb14
      replace k0d := k0d.below hb14
      replace k0z := k0z.below hb14
      replace k0 := k0.below hb14
      replace B1 := B1.below hb14
      replace k1s := k1s.below hb14
      replace k1d := k1d.below hb14
      replace k1z := k1z.below hb14
      replace k1 := k1.below hb14
      replace BR0 := BR0.below hb14
      replace B5 := B5.below hb14
      replace k5s := k5s.below hb14
      replace k5 := k5.below hb14
      replace B6 := B6.below hb14
      replace k6s := k6s.below hb14
      replace k6 := k6.below hb14
      replace bb := bb.trans (hb14.mono bb.size)
      have hsz14 := bb.size
      have s_7 := sB
      have s_8 := sB
      obtain ⟨u8, t8, rfl, q8, d8⟩ := q8
      obtain ⟨A9, c9, rfl, _⟩ := id q8
      obtain ⟨D9, e9, rfl, _⟩ := id d8
      refine any_store (i := 9) (by kernel_rfl) rfl rfl rfl rfl rfl rfl (cells := [.bool (ngB (x + y).num), .slice A9 (digs 10000 (x + y).num.natAbs).length c9, .slice D9 (digs 10000 (x + y).den).length e9]) rfl BR0 rfl (by kernel_rfl) (one3 rfl rfl rfl) fun w9 hg9 B9 => ?_
      have k9 := off q8 BR0 no_ints3 hg9
      have d9 := off d8 BR0 no_ints3 hg9
      have f9 := f8.mono (show w.heap.size ≤ _ from s_8)
      have bb9 := bb.trans ((Below.refl _ _).grown hg9 bb.size (fun g hg => by injection hg with hg; omega))
      obtain ⟨C0, C1, C2, _, _, _⟩ := three B9
      refine any_done (by kernel_rfl) ?_
      go_wp2
      exact bodyPost_ret (v := .agg #[.bool (ngB (x + y).num), .slice A9 (digs 10000 (x + y).num.natAbs).length c9, .slice D9 (digs 10000 (x + y).den).length e9]) (by simp [results, Tryz.results11, go_sem, C0, C1, C2]) rfl ⟨_, rfl, ⟨_, _, rfl, k9, d9⟩, f9, bb9⟩

set_option maxHeartbeats 1600000 in
set_option maxRecDepth 100000 in
theorem qsub_any (a0 : Value) (x : Rat) (a1 : Value) (y : Rat) (w : World) (h0 : IsP w a0 x) (h1 : IsP w a1 y) (hl : lenQ x 5000) (hl2 : lenQ y 5000) :
    Calls Tryz.prog 13 #[a0, a1] w (RetPF (x - y) w) := by
  obtain ⟨u0, t0, rfl, s0, r0⟩ := h0
  obtain ⟨A0, c0, rfl, _⟩ := id s0
  obtain ⟨D0, e0, rfl, _⟩ := id r0
  obtain ⟨u1, t1, rfl, s1, r1⟩ := h1
  obtain ⟨A1, c1, rfl, _⟩ := id s1
  obtain ⟨D1, e1, rfl, _⟩ := id r1
  have HS : Hid (x + -y = x - y) := (Rat.sub_eq_add_neg x y).symm
  go_enter Tryz.func13, Tryz.ntmps13
  go_upto_region 1 with (fail)
  obtain ⟨wx, hwx, bb, B0, B1, BR0, hsz⟩ := vars3 w 34 34 34 #[.bool (ngB (x).num), .slice A0 (digs 10000 (x).num.natAbs).length c0, .slice D0 (digs 10000 (x).den).length e0] #[.bool (ngB (y).num), .slice A1 (digs 10000 (y).num.natAbs).length c1, .slice D1 (digs 10000 (y).den).length e1] #[.bool false, .slice none 0 0, .slice none 0 0]
  rw [hwx]
  clear hwx
  have k0s := s0.below bb
  have k0d := r0.below bb
  have k0z : IsR wx (.agg #[.bool (ngB (x).num), .slice A0 (digs 10000 (x).num.natAbs).length c0]) (x).num := ⟨_, rfl, k0s⟩
  have k0 : IsP wx (.agg #[.bool (ngB (x).num), .slice A0 (digs 10000 (x).num.natAbs).length c0, .slice D0 (digs 10000 (x).den).length e0]) (x) := ⟨_, _, rfl, k0s, k0d⟩
  have k1s := s1.below bb
  have k1d := r1.below bb
  have k1z : IsR wx (.agg #[.bool (ngB (y).num), .slice A1 (digs 10000 (y).num.natAbs).length c1]) (y).num := ⟨_, rfl, k1s⟩
  have k1 : IsP wx (.agg #[.bool (ngB (y).num), .slice A1 (digs 10000 (y).num.natAbs).length c1, .slice D1 (digs 10000 (y).den).length e1]) (y) := ⟨_, _, rfl, k1s, k1d⟩
  have hsz0 := bb.size
  have sB := bb.size
  refine flow 4 [Pd.eq (.agg #[.bool (ngB (x).num), .slice A0 (digs 10000 (x).num.natAbs).length c0, .slice D0 (digs 10000 (x).den).length e0]), Pd.eq (.agg #[.bool (ngB (y).num), .slice A1 (digs 10000 (y).num.natAbs).length c1, .slice D1 (digs 10000 (y).den).length e1]), pp (-y), ppf (x - y) wx.heap.size] (by kernel_rfl) (by kernel_rfl) ?ob3 ?done3
  case ob3 =>
    refine And.intro (ob_load rfl (wt_none rfl) (ev_far rfl rfl) (fun w2 hb => run_loadAll Tryz.underlying34 rfl (by kernel_rfl) (B0.drew.below hb)) (fun _ _ => rfl)) ?_
    refine And.intro (ob_load rfl (wt_none rfl) (ev_far rfl rfl) (fun w2 hb => run_loadAll Tryz.underlying34 rfl (by kernel_rfl) (B1.drew.below hb)) (fun _ _ => rfl)) ?_
    refine And.intro (ob_call1 rfl Tryz.func28 (by kernel_rfl) (wt_none rfl) (ev_dep (j := 1) (by kernel_rfl) rfl rfl) (fun w2 u0 hb h0 => by obtain rfl := h0; exact (qneg_any _ _ _ (k1.drew.below hb)).mono fun e w3 h => RetP.pd h)) ?_
    refine And.intro (ob_call2 rfl Tryz.func11 (by kernel_rfl) (wt_none rfl) (ev_dep (j := 0) (by kernel_rfl) rfl rfl) (ev_dep (j := 2) (by kernel_rfl) rfl rfl) (fun w2 u0 u1 hb h0 h1 => by obtain rfl := h0; exact (HS.out ▸ qadd_any _ x _ (-y) _ (k0.drew.below hb) h1 hl (lenQ_neg hl2)).mono fun e w3 h => RetPF.pdf h hb.size)) ?_
    trivial
  case done3 =>
    refine fun w11 hb11 v0 h0 v1 h1 v2 h2 v3 h3 b hbf => ?_
    obtain rfl := h0; obtain rfl := h1
    have q2 := h2
    obtain ⟨q3, f3⟩ := h3
    simp only [Act.put, List.setIfInBounds_toArray, List.set_cons_zero, List.set_cons_succ] at hbf
    subst hbf
    replace B0 := B0.below hb11
    replace k0s := k0s.below hb11
    replace k0d := k0d.below hb11
    replace k0z := k0z.below hb11
    replace k0 := k0.below hb11
    replace B1 := B1.below hb11
    replace k1s := k1s.below hb11
    replace k1d := k1d.below hb11
    replace k1z := k1z.below hb11
    replace k1 := k1.below hb11
    replace BR0 := BR0.below hb11
    replace bb := bb.trans (hb11.mono bb.size)
    have hsz11 := bb.size
    have s_3 := sB
    obtain ⟨u3, t3, rfl, q3, d3⟩ := q3
    obtain ⟨A9, c9, rfl, _⟩ := id q3
    obtain ⟨D9, e9, rfl, _⟩ := id d3
    refine any_store (i := 4) (by kernel_rfl) rfl rfl rfl rfl rfl rfl (cells := [.bool (ngB (x - y).num), .slice A9 (digs 10000 (x - y).num.natAbs).length c9, .slice D9 (digs 10000 (x - y).den).length e9]) rfl BR0 rfl (by kernel_rfl) (one3 rfl rfl rfl) fun w9 hg9 B9 => ?_
    have k9 := off q3 BR0 no_ints3 hg9
    have d9 := off d3 BR0 no_ints3 hg9
    have f9 := f3.mono (show w.heap.size ≤ _ from s_3)
    have bb9 := bb.trans ((Below.refl _ _).grown hg9 bb.size (fun g hg => by injection hg with hg; omega))
    obtain ⟨C0, C1, C2, _, _, _⟩ := three B9
    refine any_done (by kernel_rfl) ?_
    go_wp2
    exact bodyPost_ret (v := .agg #[.bool (ngB (x - y).num), .slice A9 (digs 10000 (x - y).num.natAbs).length c9, .slice D9 (digs 10000 (x - y).den).length e9]) (by simp [results, Tryz.results13, go_sem, C0, C1, C2]) rfl ⟨_, rfl, ⟨_, _, rfl, k9, d9⟩, f9, bb9⟩

set_option maxHeartbeats 1600000 in
set_option maxRecDepth 100000 in
theorem qsign_any (a0 : Value) (q : Rat) (t : Int) (w : World) (h0 : IsP w a0 q) (ht : t = ordz q.num 0) :
    Calls Tryz.prog 19 #[a0] w (RetV (.int .i64 t) w) := by
  have HT := Lib.hid ht
  clear ht
  obtain ⟨u0, t0, rfl, s0, r0⟩ := h0
  obtain ⟨A0, c0, rfl, _⟩ := id s0
  obtain ⟨D0, e0, rfl, _⟩ := id r0
  go_enter Tryz.func19, Tryz.ntmps19
  go_upto_region 1 with (fail)
  obtain ⟨wx, hwx, bb, B0, hsz⟩ := vars1 w 34 #[.bool (ngB (q).num), .slice A0 (digs 10000 (q).num.natAbs).length c0, .slice D0 (digs 10000 (q).den).length e0]
  rw [hwx]
  clear hwx
  have k0s := s0.below bb
  have k0d := r0.below bb
  have k0z : IsR wx (.agg #[.bool (ngB (q).num), .slice A0 (digs 10000 (q).num.natAbs).length c0]) (q).num := ⟨_, rfl, k0s⟩
  have k0 : IsP wx (.agg #[.bool (ngB (q).num), .slice A0 (digs 10000 (q).num.natAbs).length c0, .slice D0 (digs 10000 (q).den).length e0]) (q) := ⟨_, _, rfl, k0s, k0d⟩
  have hsz0 := bb.size
  have sB := bb.size
  refine flowp 4 [Pd.eq (.pointer (some ⟨w.heap.size, 0, none⟩)), Pd.eq (.agg #[.bool (ngB (q).num), .slice A0 (digs 10000 (q).num.natAbs).length c0]), Pd.eq (.int .i64 t), Pd.eq (.int .i64 t)] (by kernel_rfl) ?ob4 ?done4
  case ob4 =>
    refine And.intro (ob_fieldAddr rfl (wt_none rfl) (ev_far rfl rfl) (fun _ => by kernel_rfl) (fun _ => rfl)) ?_
    refine And.intro (ob_load rfl (wt_none rfl) (ev_dep (j := 0) (by kernel_rfl) rfl rfl) (fun w2 hb => run_loadPart Tryz.underlying32 rfl (by kernel_rfl) (B0.below hb) rfl) (fun _ _ => rfl)) ?_
    refine And.intro (ob_call1 rfl Tryz.func51 (by kernel_rfl) (wt_none rfl) (ev_dep (j := 1) (by kernel_rfl) rfl rfl) (fun w2 u0 hb h0 => by obtain rfl := h0; exact (rsign_any _ _ t _ (k0z.below hb) HT.out).mono fun e w3 h => RetV.pd h)) ?_
    refine And.intro (ob_assign rfl (wt_none rfl) (ev_dep (j := 2) (by kernel_rfl) rfl rfl) (fun _ _ h => h)) ?_
    trivial
  case done4 =>
    refine fun w11 hb11 v0 h0 v1 h1 v2 h2 v3 h3 b hbf => ?_
    obtain rfl := h0; obtain rfl := h1; obtain rfl := h2; obtain rfl := h3
    simp only [Act.put, List.setIfInBounds_toArray, List.set_cons_zero, List.set_cons_succ] at hbf
    subst hbf
    replace B0 := B0.below hb11
    replace k0s := k0s.below hb11
    replace k0d := k0d.below hb11
    replace k0z := k0z.below hb11
    replace k0 := k0.below hb11
    replace bb := bb.trans (hb11.mono bb.size)
    have hsz11 := bb.size
    refine ops_done ?_
    go_wp2
    go_ret
    exact ⟨rfl, bb⟩

set_option maxHeartbeats 1600000 in
set_option maxRecDepth 100000 in
theorem qcmp_any (a0 : Value) (x : Rat) (a1 : Value) (y : Rat) (t : Int) (w : World) (h0 : IsP w a0 x) (h1 : IsP w a1 y) (hl : lenQ x 5000) (hl2 : lenQ y 5000) (ht : t = ordq x y) :
    Calls Tryz.prog 17 #[a0, a1] w (RetV (.int .i64 t) w) := by
  have HT : Hid (t = ordz (x - y).num 0) := by show _ = _; rw [ht, ordq_sub]
  clear ht
  obtain ⟨u0, t0, rfl, s0, r0⟩ := h0
  obtain ⟨A0, c0, rfl, _⟩ := id s0
  obtain ⟨D0, e0, rfl, _⟩ := id r0
  obtain ⟨u1, t1, rfl, s1, r1⟩ := h1
  obtain ⟨A1, c1, rfl, _⟩ := id s1
  obtain ⟨D1, e1, rfl, _⟩ := id r1
  go_enter Tryz.func17, Tryz.ntmps17
  go_upto_region 1 with (fail)
  obtain ⟨wx, hwx, bb, B0, B1, hsz⟩ := vars2 w 34 34 #[.bool (ngB (x).num), .slice A0 (digs 10000 (x).num.natAbs).length c0, .slice D0 (digs 10000 (x).den).length e0] #[.bool (ngB (y).num), .slice A1 (digs 10000 (y).num.natAbs).length c1, .slice D1 (digs 10000 (y).den).length e1]
  rw [hwx]
  clear hwx
  have k0s := s0.below bb
  have k0d := r0.below bb
  have k0z : IsR wx (.agg #[.bool (ngB (x).num), .slice A0 (digs 10000 (x).num.natAbs).length c0]) (x).num := ⟨_, rfl, k0s⟩
  have k0 : IsP wx (.agg #[.bool (ngB (x).num), .slice A0 (digs 10000 (x).num.natAbs).length c0, .slice D0 (digs 10000 (x).den).length e0]) (x) := ⟨_, _, rfl, k0s, k0d⟩
  have k1s := s1.below bb
  have k1d := r1.below bb
  have k1z : IsR wx (.agg #[.bool (ngB (y).num), .slice A1 (digs 10000 (y).num.natAbs).length c1]) (y).num := ⟨_, rfl, k1s⟩
  have k1 : IsP wx (.agg #[.bool (ngB (y).num), .slice A1 (digs 10000 (y).num.natAbs).length c1, .slice D1 (digs 10000 (y).den).length e1]) (y) := ⟨_, _, rfl, k1s, k1d⟩
  have hsz0 := bb.size
  have sB := bb.size
  refine flowp 5 [Pd.eq (.agg #[.bool (ngB (x).num), .slice A0 (digs 10000 (x).num.natAbs).length c0, .slice D0 (digs 10000 (x).den).length e0]), Pd.eq (.agg #[.bool (ngB (y).num), .slice A1 (digs 10000 (y).num.natAbs).length c1, .slice D1 (digs 10000 (y).den).length e1]), pp (x - y), Pd.eq (.int .i64 t), Pd.eq (.int .i64 t)] (by kernel_rfl) ?ob5 ?done5
  case ob5 =>
    refine And.intro (ob_load rfl (wt_none rfl) (ev_far rfl rfl) (fun w2 hb => run_loadAll Tryz.underlying34 rfl (by kernel_rfl) (B0.below hb)) (fun _ _ => rfl)) ?_
    refine And.intro (ob_load rfl (wt_none rfl) (ev_far rfl rfl) (fun w2 hb => run_loadAll Tryz.underlying34 rfl (by kernel_rfl) (B1.below hb)) (fun _ _ => rfl)) ?_
    refine And.intro (ob_call2 rfl Tryz.func13 (by kernel_rfl) (wt_none rfl) (ev_dep (j := 0) (by kernel_rfl) rfl rfl) (ev_dep (j := 1) (by kernel_rfl) rfl rfl) (fun w2 u0 u1 hb h0 h1 => by obtain rfl := h0; obtain rfl := h1; exact (qsub_any _ x _ y _ (k0.below hb) (k1.below hb) hl hl2).mono fun e w3 h => RetPF.pd h)) ?_
    refine And.intro (ob_call1 rfl Tryz.func19 (by kernel_rfl) (wt_none rfl) (ev_dep (j := 2) (by kernel_rfl) rfl rfl) (fun w2 u0 hb h0 => by exact (qsign_any _ (x - y) t _ h0 HT.out).mono fun e w3 h => RetV.pd h)) ?_
    refine And.intro (ob_assign rfl (wt_none rfl) (ev_dep (j := 3) (by kernel_rfl) rfl rfl) (fun _ _ h => h)) ?_
    trivial
  case done5 =>
    refine fun w11 hb11 v0 h0 v1 h1 v2 h2 v3 h3 v4 h4 b hbf => ?_
    obtain rfl := h0; obtain rfl := h1; obtain rfl := h3; obtain rfl := h4
    have q2 := h2
    simp only [Act.put, List.setIfInBounds_toArray, List.set_cons_zero, List.set_cons_succ] at hbf
    subst hbf
    replace B0 := B0.below hb11
    replace k0s := k0s.below hb11
    replace k0d := k0d.below hb11
    replace k0z := k0z.below hb11
    replace k0 := k0.below hb11
    replace B1 := B1.below hb11
    replace k1s := k1s.below hb11
    replace k1d := k1d.below hb11
    replace k1z := k1z.below hb11
    replace k1 := k1.below hb11
    replace bb := bb.trans (hb11.mono bb.size)
    have hsz11 := bb.size
    refine ops_done ?_
    go_wp2
    go_ret
    exact ⟨rfl, bb⟩

end Go.Proofs.YtbebmknfecehnaaGreat.rat
