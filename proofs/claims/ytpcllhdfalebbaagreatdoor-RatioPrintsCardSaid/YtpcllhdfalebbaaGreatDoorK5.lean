/- Package rat: its own contracts, each said of fractions: Same, One, May. Condition: as each says.
What the program's package ratio wants of numbers and texts: where a text is cut, and twos and fives in a number. Condition: none.
Texts cut at a sign: strings.Cut at a / or a point, strings.CutSuffix of a %. Condition: none. -/
import Derived.Test.YtpcllhdfalebbaaGreatDoorK4
namespace Go.Proofs.YtpcllhdfalebbaaGreatDoor.rat
open Go.RowKit Go.Proofs.YtpcllhdfalebbaaGreatDoor.num Go.Proofs.YtpcllhdfalebbaaGreatDoor.mem Go.Proofs.YtpcllhdfalebbaaGreatDoor.nat Go.Proofs.YtpcllhdfalebbaaGreatDoor.txt Go.Proofs.YtpcllhdfalebbaaGreatDoor.str Go.Proofs.YtpcllhdfalebbaaGreatDoor.flow Go.Proofs.YtpcllhdfalebbaaGreatDoor.whl
set_option linter.unusedVariables false
theorem limbs_any (v u : Value) (l m : List Nat) (b : Bool) (w : World) (h : IsS w .u64 v l) (h' : IsS w .u64 u m) (hu : Lt 18446744073709551616 l) (hu' : Lt 18446744073709551616 m) (hb_ : b = sameB l m) :
    Calls Tryz.prog 59 #[v, u] w (RetV (.bool b) w) := by
  have HB := Lib.hid hb_
  clear hb_
  obtain ⟨A, c, rfl, hc, hm, hr⟩ := h
  obtain ⟨A', c', rfl, hc', hmm, hr'⟩ := h'
  unfold maxLen at hm hmm
  by_cases hne : l.length = m.length
  · have hb1 : ((l.length : Int) != (m.length : Int)) = false := by rw [hne]; simp
    have HL := Lib.hid hne
    have hl1 : l.length ≤ m.length := by omega
    have hl2 : m.length ≤ l.length := by omega
    clear hne
    go_enter Tryz.func59, Tryz.ntmps59
    go_wp2
    go_loopw [13] (fun vi wr => ∃ k : Nat, k ≤ l.length ∧ Hid (l.take k = m.take k) ∧ Below w.heap.size w wr ∧ vi = .int .i64 (k : Int)) (fun vi _ => l.length - (intOf vi).toNat)
    case atStart => exact ⟨0, by omega, by show _ = _; simp, Below.refl _ _, rfl⟩
    case round =>
      obtain ⟨k, hk, HT, hb, rfl⟩ := hrel
      by_cases hlt : k < l.length
      · obtain ⟨ad, d, rfl, hd, hcell⟩ := (hr.below hb).at_ hlt
        obtain ⟨ad', e, rfl, he, hcell'⟩ := (hr'.below hb).at_ (i := k) (by omega)
        by_cases hde : d = e
        · subst hde
          have HN : Hid (l.take (k + 1) = m.take (k + 1)) := by show _ = _; rw [take_step hd, take_step he, HT.out]
          have hz : ((d : Int) != (d : Int)) = false := by simp
          clear hd he
          go_wp2
          go_quiet (fail)
          go_wp2
          go_roundw
          case rel => exact ⟨k + 1, by omega, HN, below_drewN hb _, by go_num⟩
          case measure => simp [intOf]; omega
        · have HN : Hid (sameB l m = false) := sameB_at hd he hde
          have hz : ((d : Int) != (e : Int)) = true := by rw [bne_iff_ne]; omega
          clear hd he hde
          go_wp2
          go_quiet (fail)
          go_wp2
          go_ret
          exact ⟨by rw [HB.out, HN.out]; rfl, below_drewN hb _⟩
      · obtain rfl : k = l.length := by omega
        have HN : Hid (sameB l m = true) := by
          have := HT.out
          rw [List.take_length, List.take_of_length_le hl2] at this
          rw [this]; exact sameB_refl m
        go_wp2
        go_ret
        exact ⟨by rw [HB.out, HN.out]; rfl, hb⟩
  · have hb1 : ((l.length : Int) != (m.length : Int)) = true := by rw [bne_iff_ne]; omega
    have HN : Hid (sameB l m = false) := sameB_of_len hne
    clear hne
    go_enter Tryz.func59, Tryz.ntmps59
    go_wp2
    go_ret
    exact ⟨by rw [HB.out, HN.out]; rfl, Below.refl _ _⟩
theorem limbs_num (v u : Value) (x y : Nat) (b : Bool) (w : World) (h : IsS w .u64 v (digs 4294967296 x)) (h' : IsS w .u64 u (digs 4294967296 y)) (hb : b = decide (x = y)) :
    Calls Tryz.prog 59 #[v, u] w (RetV (.bool b) w) :=
  limbs_any v u _ _ b w h h' (digs_lt_u x) (digs_lt_u y) (by rw [hb, sameB_digs])
set_option maxHeartbeats 1600000 in
set_option maxRecDepth 100000 in
theorem same8_any (a0 a1 : Value) (x y : Rat) (b : Bool) (w : World) (h0 : IsQ w a0 x) (h1 : IsQ w a1 y) (hb : b = decide (x = y)) :
    Calls Tryz.prog 22 #[a0, a1] w (RetV (.bool b) w) := by
  by_cases hs : ngB x.num = ngB y.num
  · by_cases hn : x.num.natAbs = y.num.natAbs
    · obtain ⟨u0, t0, rfl, s0, r0⟩ := h0
      obtain ⟨A0, c0, rfl, _⟩ := id s0
      obtain ⟨D0, e0, rfl, _⟩ := id r0
      obtain ⟨u1, t1, rfl, s1, r1⟩ := h1
      obtain ⟨A1, c1, rfl, _⟩ := id s1
      obtain ⟨D1, e1, rfl, _⟩ := id r1
      have HE : Hid ((ngB x.num == ngB y.num) = true) := by show _ = _; rw [hs]; exact beq_self_eq_true _
      have HB : Hid (b = decide (x.den = y.den)) := by show _ = _; rw [hb, decide_eq_decide, eq_parts]; exact ⟨fun e => e.2, fun e => ⟨by rw [← sg_self x.num, ← sg_self y.num, hs, hn], e⟩⟩
      clear hb hs
      have HN : Hid (true = decide (x.num.natAbs = y.num.natAbs)) := (decide_eq_true hn).symm
      clear hn
      go_enter Tryz.func22, Tryz.ntmps22
      go_upto_region 1 with (fail)
      obtain ⟨wx, hwx, bb, B0, B1, hsz⟩ := vars2 w 27 27 #[.bool (ngB (x).num), .slice A0 (digs 4294967296 (x).num.natAbs).length c0, .slice D0 (digs 4294967296 (x).den).length e0] #[.bool (ngB (y).num), .slice A1 (digs 4294967296 (y).num.natAbs).length c1, .slice D1 (digs 4294967296 (y).den).length e1]
      rw [hwx]
      clear hwx
      have k0s := s0.below bb
      have k0d := r0.below bb
      have k0z : IsZ wx (.agg #[.bool (ngB (x).num), .slice A0 (digs 4294967296 (x).num.natAbs).length c0]) (x).num := ⟨_, rfl, k0s⟩
      have k0 : IsQ wx (.agg #[.bool (ngB (x).num), .slice A0 (digs 4294967296 (x).num.natAbs).length c0, .slice D0 (digs 4294967296 (x).den).length e0]) (x) := ⟨_, _, rfl, k0s, k0d⟩
      have k1s := s1.below bb
      have k1d := r1.below bb
      have k1z : IsZ wx (.agg #[.bool (ngB (y).num), .slice A1 (digs 4294967296 (y).num.natAbs).length c1]) (y).num := ⟨_, rfl, k1s⟩
      have k1 : IsQ wx (.agg #[.bool (ngB (y).num), .slice A1 (digs 4294967296 (y).num.natAbs).length c1, .slice D1 (digs 4294967296 (y).den).length e1]) (y) := ⟨_, _, rfl, k1s, k1d⟩
      have hsz0 := bb.size
      have sB := bb.size
      refine flowp 24 [Pd.eq (.pointer (some ⟨w.heap.size, 0, none⟩)), Pd.eq (.pointer (some ⟨w.heap.size, 0, none⟩)), Pd.eq (.bool (ngB (x).num)), Pd.eq (.pointer (some ⟨w.heap.size + 1, 0, none⟩)), Pd.eq (.pointer (some ⟨w.heap.size + 1, 0, none⟩)), Pd.eq (.bool (ngB (y).num)), Pd.eq (.bool true), Pd.eq (.bool true), Pd.eq (.pointer (some ⟨w.heap.size, 0, none⟩)), Pd.eq (.pointer (some ⟨w.heap.size, 1, none⟩)), Pd.eq (.slice A0 (digs 4294967296 (x).num.natAbs).length c0), Pd.eq (.pointer (some ⟨w.heap.size + 1, 0, none⟩)), Pd.eq (.pointer (some ⟨w.heap.size + 1, 1, none⟩)), Pd.eq (.slice A1 (digs 4294967296 (y).num.natAbs).length c1), Pd.eq (.bool true), Pd.eq (.bool true), Pd.eq (.bool true), Pd.eq (.pointer (some ⟨w.heap.size, 2, none⟩)), Pd.eq (.slice D0 (digs 4294967296 (x).den).length e0), Pd.eq (.pointer (some ⟨w.heap.size + 1, 2, none⟩)), Pd.eq (.slice D1 (digs 4294967296 (y).den).length e1), Pd.eq (.bool b), Pd.eq (.bool b), Pd.eq (.bool b)] (by kernel_rfl) ?ob46 ?done46
      case ob46 =>
        refine And.intro (ob_fieldAddr rfl (wt_none rfl) (ev_far rfl rfl) (fun _ => by kernel_rfl) (fun _ => rfl)) ?_
        refine And.intro (ob_fieldAddr rfl (wt_none rfl) (ev_dep (j := 0) (by kernel_rfl) rfl rfl) (fun _ => by kernel_rfl) (fun _ => rfl)) ?_
        refine And.intro (ob_load rfl (wt_none rfl) (ev_dep (j := 1) (by kernel_rfl) rfl rfl) (fun w2 hb => run_load1 Tryz.underlying4 rfl ((B0.below hb).cell 0)) (fun _ _ => rfl)) ?_
        refine And.intro (ob_fieldAddr rfl (wt_none rfl) (ev_far rfl rfl) (fun _ => by kernel_rfl) (fun _ => rfl)) ?_
        refine And.intro (ob_fieldAddr rfl (wt_none rfl) (ev_dep (j := 3) (by kernel_rfl) rfl rfl) (fun _ => by kernel_rfl) (fun _ => rfl)) ?_
        refine And.intro (ob_load rfl (wt_none rfl) (ev_dep (j := 4) (by kernel_rfl) rfl rfl) (fun w2 hb => run_load1 Tryz.underlying4 rfl ((B1.below hb).cell 0)) (fun _ _ => rfl)) ?_
        refine And.intro (ob_bin rfl (wt_none rfl) (ev_dep (j := 2) (by kernel_rfl) rfl rfl) (ev_dep (j := 5) (by kernel_rfl) rfl rfl) (fun _ _ _ hx hy => ⟨.bool true, by rw [hx, hy]; exact (bin_eql_bool _ _ _ _ Tryz.underlying4 _).trans (by rw [HE.out]), rfl⟩)) ?_
        refine And.intro (ob_move rfl (wt_none rfl) (ev_dep (j := 6) (by kernel_rfl) rfl rfl) (fun _ _ h => h)) ?_
        refine And.intro (ob_fieldAddr rfl (wt_dep (c := true) (b := true) (g := 7) rfl (by kernel_rfl) rfl rfl rfl (by exact fun _ _ h => h)) (ev_far rfl rfl) (fun _ => by kernel_rfl) (fun _ => rfl)) ?_
        refine And.intro (ob_fieldAddr rfl (wt_dep (c := true) (b := true) (g := 7) rfl (by kernel_rfl) rfl rfl rfl (by exact fun _ _ h => h)) (ev_dep (j := 8) (by kernel_rfl) rfl rfl) (fun _ => by kernel_rfl) (fun _ => rfl)) ?_
        refine And.intro (ob_load rfl (wt_dep (c := true) (b := true) (g := 7) rfl (by kernel_rfl) rfl rfl rfl (by exact fun _ _ h => h)) (ev_dep (j := 9) (by kernel_rfl) rfl rfl) (fun w2 hb => run_load1 Tryz.underlying23 rfl ((B0.below hb).cell 1)) (fun _ _ => rfl)) ?_
        refine And.intro (ob_fieldAddr rfl (wt_dep (c := true) (b := true) (g := 7) rfl (by kernel_rfl) rfl rfl rfl (by exact fun _ _ h => h)) (ev_far rfl rfl) (fun _ => by kernel_rfl) (fun _ => rfl)) ?_
        refine And.intro (ob_fieldAddr rfl (wt_dep (c := true) (b := true) (g := 7) rfl (by kernel_rfl) rfl rfl rfl (by exact fun _ _ h => h)) (ev_dep (j := 11) (by kernel_rfl) rfl rfl) (fun _ => by kernel_rfl) (fun _ => rfl)) ?_
        refine And.intro (ob_load rfl (wt_dep (c := true) (b := true) (g := 7) rfl (by kernel_rfl) rfl rfl rfl (by exact fun _ _ h => h)) (ev_dep (j := 12) (by kernel_rfl) rfl rfl) (fun w2 hb => run_load1 Tryz.underlying23 rfl ((B1.below hb).cell 1)) (fun _ _ => rfl)) ?_
        refine And.intro (ob_call2 rfl Tryz.func59 (by kernel_rfl) (wt_dep (c := true) (b := true) (g := 7) rfl (by kernel_rfl) rfl rfl rfl (by exact fun _ _ h => h)) (ev_dep (j := 10) (by kernel_rfl) rfl rfl) (ev_dep (j := 13) (by kernel_rfl) rfl rfl) (fun w2 u0 u1 hb h0 h1 => by obtain rfl := h0; obtain rfl := h1; exact (limbs_num _ _ (x).num.natAbs (y).num.natAbs true _ (k0s.below hb) (k1s.below hb) HN.out).mono fun e w3 h => RetV.pd h)) ?_
        refine And.intro (ob_pick (b := true) rfl (wt_none rfl) (ev_dep (j := 7) (by kernel_rfl) rfl rfl) (ev_dep (j := 14) (by kernel_rfl) rfl rfl) (fun _ _ h => h)) ?_
        refine And.intro (ob_move rfl (wt_none rfl) (ev_dep (j := 15) (by kernel_rfl) rfl rfl) (fun _ _ h => h)) ?_
        refine And.intro (ob_fieldAddr rfl (wt_dep (c := true) (b := true) (g := 16) rfl (by kernel_rfl) rfl rfl rfl (by exact fun _ _ h => h)) (ev_far rfl rfl) (fun _ => by kernel_rfl) (fun _ => rfl)) ?_
        refine And.intro (ob_load rfl (wt_dep (c := true) (b := true) (g := 16) rfl (by kernel_rfl) rfl rfl rfl (by exact fun _ _ h => h)) (ev_dep (j := 17) (by kernel_rfl) rfl rfl) (fun w2 hb => run_load1 Tryz.underlying23 rfl ((B0.below hb).cell 2)) (fun _ _ => rfl)) ?_
        refine And.intro (ob_fieldAddr rfl (wt_dep (c := true) (b := true) (g := 16) rfl (by kernel_rfl) rfl rfl rfl (by exact fun _ _ h => h)) (ev_far rfl rfl) (fun _ => by kernel_rfl) (fun _ => rfl)) ?_
        refine And.intro (ob_load rfl (wt_dep (c := true) (b := true) (g := 16) rfl (by kernel_rfl) rfl rfl rfl (by exact fun _ _ h => h)) (ev_dep (j := 19) (by kernel_rfl) rfl rfl) (fun w2 hb => run_load1 Tryz.underlying23 rfl ((B1.below hb).cell 2)) (fun _ _ => rfl)) ?_
        refine And.intro (ob_call2 rfl Tryz.func59 (by kernel_rfl) (wt_dep (c := true) (b := true) (g := 16) rfl (by kernel_rfl) rfl rfl rfl (by exact fun _ _ h => h)) (ev_dep (j := 18) (by kernel_rfl) rfl rfl) (ev_dep (j := 20) (by kernel_rfl) rfl rfl) (fun w2 u0 u1 hb h0 h1 => by obtain rfl := h0; obtain rfl := h1; exact (limbs_num _ _ (x).den (y).den b _ (k0d.below hb) (k1d.below hb) HB.out).mono fun e w3 h => RetV.pd h)) ?_
        refine And.intro (ob_pick (b := true) rfl (wt_none rfl) (ev_dep (j := 16) (by kernel_rfl) rfl rfl) (ev_dep (j := 21) (by kernel_rfl) rfl rfl) (fun _ _ h => h)) ?_
        refine And.intro (ob_assign rfl (wt_none rfl) (ev_dep (j := 22) (by kernel_rfl) rfl rfl) (fun _ _ h => h)) ?_
        trivial
      case done46 =>
        refine fun w1 hb1 v0 h0 v1 h1 v2 h2 v3 h3 v4 h4 v5 h5 v6 h6 v7 h7 v8 h8 v9 h9 v10 h10 v11 h11 v12 h12 v13 h13 v14 h14 v15 h15 v16 h16 v17 h17 v18 h18 v19 h19 v20 h20 v21 h21 v22 h22 v23 h23 b hbf => ?_
        obtain rfl := h0; obtain rfl := h1; obtain rfl := h2; obtain rfl := h3; obtain rfl := h4; obtain rfl := h5; obtain rfl := h6; obtain rfl := h7; obtain rfl := h8; obtain rfl := h9; obtain rfl := h10; obtain rfl := h11; obtain rfl := h12; obtain rfl := h13; obtain rfl := h14; obtain rfl := h15; obtain rfl := h16; obtain rfl := h17; obtain rfl := h18; obtain rfl := h19; obtain rfl := h20; obtain rfl := h21; obtain rfl := h22; obtain rfl := h23
        simp only [Act.put, List.setIfInBounds_toArray, List.set_cons_zero, List.set_cons_succ] at hbf
        subst hbf
        replace B0 := B0.below hb1
        replace k0s := k0s.below hb1
        replace k0d := k0d.below hb1
        replace k0z := k0z.below hb1
        replace k0 := k0.below hb1
        replace B1 := B1.below hb1
        replace k1s := k1s.below hb1
        replace k1d := k1d.below hb1
        replace k1z := k1z.below hb1
        replace k1 := k1.below hb1
        replace bb := bb.trans (hb1.mono bb.size)
        have hsz1 := bb.size
        refine ops_done ?_
        go_wp2
        go_ret
        exact ⟨rfl, bb⟩
    · obtain ⟨u0, t0, rfl, s0, r0⟩ := h0
      obtain ⟨A0, c0, rfl, _⟩ := id s0
      obtain ⟨D0, e0, rfl, _⟩ := id r0
      obtain ⟨u1, t1, rfl, s1, r1⟩ := h1
      obtain ⟨A1, c1, rfl, _⟩ := id s1
      obtain ⟨D1, e1, rfl, _⟩ := id r1
      have HE : Hid ((ngB x.num == ngB y.num) = true) := by show _ = _; rw [hs]; exact beq_self_eq_true _
      obtain rfl : b = false := by rw [hb, decide_eq_false_iff_not]; exact fun e => hn (by rw [e])
      clear hb hs
      have HN : Hid (false = decide (x.num.natAbs = y.num.natAbs)) := (decide_eq_false hn).symm
      clear hn
      go_enter Tryz.func22, Tryz.ntmps22
      go_upto_region 1 with (fail)
      obtain ⟨wx, hwx, bb, B0, B1, hsz⟩ := vars2 w 27 27 #[.bool (ngB (x).num), .slice A0 (digs 4294967296 (x).num.natAbs).length c0, .slice D0 (digs 4294967296 (x).den).length e0] #[.bool (ngB (y).num), .slice A1 (digs 4294967296 (y).num.natAbs).length c1, .slice D1 (digs 4294967296 (y).den).length e1]
      rw [hwx]
      clear hwx
      have k0s := s0.below bb
      have k0d := r0.below bb
      have k0z : IsZ wx (.agg #[.bool (ngB (x).num), .slice A0 (digs 4294967296 (x).num.natAbs).length c0]) (x).num := ⟨_, rfl, k0s⟩
      have k0 : IsQ wx (.agg #[.bool (ngB (x).num), .slice A0 (digs 4294967296 (x).num.natAbs).length c0, .slice D0 (digs 4294967296 (x).den).length e0]) (x) := ⟨_, _, rfl, k0s, k0d⟩
      have k1s := s1.below bb
      have k1d := r1.below bb
      have k1z : IsZ wx (.agg #[.bool (ngB (y).num), .slice A1 (digs 4294967296 (y).num.natAbs).length c1]) (y).num := ⟨_, rfl, k1s⟩
      have k1 : IsQ wx (.agg #[.bool (ngB (y).num), .slice A1 (digs 4294967296 (y).num.natAbs).length c1, .slice D1 (digs 4294967296 (y).den).length e1]) (y) := ⟨_, _, rfl, k1s, k1d⟩
      have hsz0 := bb.size
      have sB := bb.size
      refine flowp 24 [Pd.eq (.pointer (some ⟨w.heap.size, 0, none⟩)), Pd.eq (.pointer (some ⟨w.heap.size, 0, none⟩)), Pd.eq (.bool (ngB (x).num)), Pd.eq (.pointer (some ⟨w.heap.size + 1, 0, none⟩)), Pd.eq (.pointer (some ⟨w.heap.size + 1, 0, none⟩)), Pd.eq (.bool (ngB (y).num)), Pd.eq (.bool true), Pd.eq (.bool true), Pd.eq (.pointer (some ⟨w.heap.size, 0, none⟩)), Pd.eq (.pointer (some ⟨w.heap.size, 1, none⟩)), Pd.eq (.slice A0 (digs 4294967296 (x).num.natAbs).length c0), Pd.eq (.pointer (some ⟨w.heap.size + 1, 0, none⟩)), Pd.eq (.pointer (some ⟨w.heap.size + 1, 1, none⟩)), Pd.eq (.slice A1 (digs 4294967296 (y).num.natAbs).length c1), Pd.eq (.bool false), Pd.eq (.bool false), Pd.eq (.bool false), Pd.any, Pd.any, Pd.any, Pd.any, Pd.any, Pd.eq (.bool false), Pd.eq (.bool false)] (by kernel_rfl) ?ob45 ?done45
      case ob45 =>
        refine And.intro (ob_fieldAddr rfl (wt_none rfl) (ev_far rfl rfl) (fun _ => by kernel_rfl) (fun _ => rfl)) ?_
        refine And.intro (ob_fieldAddr rfl (wt_none rfl) (ev_dep (j := 0) (by kernel_rfl) rfl rfl) (fun _ => by kernel_rfl) (fun _ => rfl)) ?_
        refine And.intro (ob_load rfl (wt_none rfl) (ev_dep (j := 1) (by kernel_rfl) rfl rfl) (fun w2 hb => run_load1 Tryz.underlying4 rfl ((B0.below hb).cell 0)) (fun _ _ => rfl)) ?_
        refine And.intro (ob_fieldAddr rfl (wt_none rfl) (ev_far rfl rfl) (fun _ => by kernel_rfl) (fun _ => rfl)) ?_
        refine And.intro (ob_fieldAddr rfl (wt_none rfl) (ev_dep (j := 3) (by kernel_rfl) rfl rfl) (fun _ => by kernel_rfl) (fun _ => rfl)) ?_
        refine And.intro (ob_load rfl (wt_none rfl) (ev_dep (j := 4) (by kernel_rfl) rfl rfl) (fun w2 hb => run_load1 Tryz.underlying4 rfl ((B1.below hb).cell 0)) (fun _ _ => rfl)) ?_
        refine And.intro (ob_bin rfl (wt_none rfl) (ev_dep (j := 2) (by kernel_rfl) rfl rfl) (ev_dep (j := 5) (by kernel_rfl) rfl rfl) (fun _ _ _ hx hy => ⟨.bool true, by rw [hx, hy]; exact (bin_eql_bool _ _ _ _ Tryz.underlying4 _).trans (by rw [HE.out]), rfl⟩)) ?_
        refine And.intro (ob_move rfl (wt_none rfl) (ev_dep (j := 6) (by kernel_rfl) rfl rfl) (fun _ _ h => h)) ?_
        refine And.intro (ob_fieldAddr rfl (wt_dep (c := true) (b := true) (g := 7) rfl (by kernel_rfl) rfl rfl rfl (by exact fun _ _ h => h)) (ev_far rfl rfl) (fun _ => by kernel_rfl) (fun _ => rfl)) ?_
        refine And.intro (ob_fieldAddr rfl (wt_dep (c := true) (b := true) (g := 7) rfl (by kernel_rfl) rfl rfl rfl (by exact fun _ _ h => h)) (ev_dep (j := 8) (by kernel_rfl) rfl rfl) (fun _ => by kernel_rfl) (fun _ => rfl)) ?_
        refine And.intro (ob_load rfl (wt_dep (c := true) (b := true) (g := 7) rfl (by kernel_rfl) rfl rfl rfl (by exact fun _ _ h => h)) (ev_dep (j := 9) (by kernel_rfl) rfl rfl) (fun w2 hb => run_load1 Tryz.underlying23 rfl ((B0.below hb).cell 1)) (fun _ _ => rfl)) ?_
        refine And.intro (ob_fieldAddr rfl (wt_dep (c := true) (b := true) (g := 7) rfl (by kernel_rfl) rfl rfl rfl (by exact fun _ _ h => h)) (ev_far rfl rfl) (fun _ => by kernel_rfl) (fun _ => rfl)) ?_
        refine And.intro (ob_fieldAddr rfl (wt_dep (c := true) (b := true) (g := 7) rfl (by kernel_rfl) rfl rfl rfl (by exact fun _ _ h => h)) (ev_dep (j := 11) (by kernel_rfl) rfl rfl) (fun _ => by kernel_rfl) (fun _ => rfl)) ?_
        refine And.intro (ob_load rfl (wt_dep (c := true) (b := true) (g := 7) rfl (by kernel_rfl) rfl rfl rfl (by exact fun _ _ h => h)) (ev_dep (j := 12) (by kernel_rfl) rfl rfl) (fun w2 hb => run_load1 Tryz.underlying23 rfl ((B1.below hb).cell 1)) (fun _ _ => rfl)) ?_
        refine And.intro (ob_call2 rfl Tryz.func59 (by kernel_rfl) (wt_dep (c := true) (b := true) (g := 7) rfl (by kernel_rfl) rfl rfl rfl (by exact fun _ _ h => h)) (ev_dep (j := 10) (by kernel_rfl) rfl rfl) (ev_dep (j := 13) (by kernel_rfl) rfl rfl) (fun w2 u0 u1 hb h0 h1 => by obtain rfl := h0; obtain rfl := h1; exact (limbs_num _ _ (x).num.natAbs (y).num.natAbs false _ (k0s.below hb) (k1s.below hb) HN.out).mono fun e w3 h => RetV.pd h)) ?_
        refine And.intro (ob_pick (b := true) rfl (wt_none rfl) (ev_dep (j := 7) (by kernel_rfl) rfl rfl) (ev_dep (j := 14) (by kernel_rfl) rfl rfl) (fun _ _ h => h)) ?_
        refine And.intro (ob_move rfl (wt_none rfl) (ev_dep (j := 15) (by kernel_rfl) rfl rfl) (fun _ _ h => h)) ?_
        refine And.intro (ob_not (wt_dep (c := false) (b := true) (g := 16) rfl (by kernel_rfl) rfl rfl rfl (by exact fun _ _ h => h)) (fun _ => trivial) rfl) ?_
        refine And.intro (ob_not (wt_dep (c := false) (b := true) (g := 16) rfl (by kernel_rfl) rfl rfl rfl (by exact fun _ _ h => h)) (fun _ => trivial) rfl) ?_
        refine And.intro (ob_not (wt_dep (c := false) (b := true) (g := 16) rfl (by kernel_rfl) rfl rfl rfl (by exact fun _ _ h => h)) (fun _ => trivial) rfl) ?_
        refine And.intro (ob_not (wt_dep (c := false) (b := true) (g := 16) rfl (by kernel_rfl) rfl rfl rfl (by exact fun _ _ h => h)) (fun _ => trivial) rfl) ?_
        refine And.intro (ob_not (wt_dep (c := false) (b := true) (g := 16) rfl (by kernel_rfl) rfl rfl rfl (by exact fun _ _ h => h)) (fun _ => trivial) rfl) ?_
        refine And.intro (ob_pick (b := false) rfl (wt_none rfl) (ev_dep (j := 16) (by kernel_rfl) rfl rfl) (ev_const _) (fun _ _ h => h)) ?_
        refine And.intro (ob_assign rfl (wt_none rfl) (ev_dep (j := 22) (by kernel_rfl) rfl rfl) (fun _ _ h => h)) ?_
        trivial
      case done45 =>
        refine fun w1 hb1 v0 h0 v1 h1 v2 h2 v3 h3 v4 h4 v5 h5 v6 h6 v7 h7 v8 h8 v9 h9 v10 h10 v11 h11 v12 h12 v13 h13 v14 h14 v15 h15 v16 h16 v17 h17 v18 h18 v19 h19 v20 h20 v21 h21 v22 h22 v23 h23 b hbf => ?_
        obtain rfl := h0; obtain rfl := h1; obtain rfl := h2; obtain rfl := h3; obtain rfl := h4; obtain rfl := h5; obtain rfl := h6; obtain rfl := h7; obtain rfl := h8; obtain rfl := h9; obtain rfl := h10; obtain rfl := h11; obtain rfl := h12; obtain rfl := h13; obtain rfl := h14; obtain rfl := h15; obtain rfl := h16; obtain rfl := h22; obtain rfl := h23
        clear h17
        clear h18
        clear h19
        clear h20
        clear h21
        simp only [Act.put, List.setIfInBounds_toArray, List.set_cons_zero, List.set_cons_succ] at hbf
        subst hbf
        replace B0 := B0.below hb1
        replace k0s := k0s.below hb1
        replace k0d := k0d.below hb1
        replace k0z := k0z.below hb1
        replace k0 := k0.below hb1
        replace B1 := B1.below hb1
        replace k1s := k1s.below hb1
        replace k1d := k1d.below hb1
        replace k1z := k1z.below hb1
        replace k1 := k1.below hb1
        replace bb := bb.trans (hb1.mono bb.size)
        have hsz1 := bb.size
        refine ops_done ?_
        go_wp2
        go_ret
        exact ⟨rfl, bb⟩
  · obtain ⟨u0, t0, rfl, s0, r0⟩ := h0
    obtain ⟨A0, c0, rfl, _⟩ := id s0
    obtain ⟨D0, e0, rfl, _⟩ := id r0
    obtain ⟨u1, t1, rfl, s1, r1⟩ := h1
    obtain ⟨A1, c1, rfl, _⟩ := id s1
    obtain ⟨D1, e1, rfl, _⟩ := id r1
    obtain rfl : b = false := by rw [hb, decide_eq_false_iff_not]; exact fun e => hs (by rw [e])
    clear hb
    have HE : Hid ((ngB x.num == ngB y.num) = false) := by show _ = _; rw [beq_eq_false_iff_ne]; exact hs
    clear hs
    go_enter Tryz.func22, Tryz.ntmps22
    go_upto_region 1 with (fail)
    obtain ⟨wx, hwx, bb, B0, B1, hsz⟩ := vars2 w 27 27 #[.bool (ngB (x).num), .slice A0 (digs 4294967296 (x).num.natAbs).length c0, .slice D0 (digs 4294967296 (x).den).length e0] #[.bool (ngB (y).num), .slice A1 (digs 4294967296 (y).num.natAbs).length c1, .slice D1 (digs 4294967296 (y).den).length e1]
    rw [hwx]
    clear hwx
    have k0s := s0.below bb
    have k0d := r0.below bb
    have k0z : IsZ wx (.agg #[.bool (ngB (x).num), .slice A0 (digs 4294967296 (x).num.natAbs).length c0]) (x).num := ⟨_, rfl, k0s⟩
    have k0 : IsQ wx (.agg #[.bool (ngB (x).num), .slice A0 (digs 4294967296 (x).num.natAbs).length c0, .slice D0 (digs 4294967296 (x).den).length e0]) (x) := ⟨_, _, rfl, k0s, k0d⟩
    have k1s := s1.below bb
    have k1d := r1.below bb
    have k1z : IsZ wx (.agg #[.bool (ngB (y).num), .slice A1 (digs 4294967296 (y).num.natAbs).length c1]) (y).num := ⟨_, rfl, k1s⟩
    have k1 : IsQ wx (.agg #[.bool (ngB (y).num), .slice A1 (digs 4294967296 (y).num.natAbs).length c1, .slice D1 (digs 4294967296 (y).den).length e1]) (y) := ⟨_, _, rfl, k1s, k1d⟩
    have hsz0 := bb.size
    have sB := bb.size
    refine flowp 24 [Pd.eq (.pointer (some ⟨w.heap.size, 0, none⟩)), Pd.eq (.pointer (some ⟨w.heap.size, 0, none⟩)), Pd.eq (.bool (ngB (x).num)), Pd.eq (.pointer (some ⟨w.heap.size + 1, 0, none⟩)), Pd.eq (.pointer (some ⟨w.heap.size + 1, 0, none⟩)), Pd.eq (.bool (ngB (y).num)), Pd.eq (.bool false), Pd.eq (.bool false), Pd.any, Pd.any, Pd.any, Pd.any, Pd.any, Pd.any, Pd.any, Pd.eq (.bool false), Pd.eq (.bool false), Pd.any, Pd.any, Pd.any, Pd.any, Pd.any, Pd.eq (.bool false), Pd.eq (.bool false)] (by kernel_rfl) ?ob44 ?done44
    case ob44 =>
      refine And.intro (ob_fieldAddr rfl (wt_none rfl) (ev_far rfl rfl) (fun _ => by kernel_rfl) (fun _ => rfl)) ?_
      refine And.intro (ob_fieldAddr rfl (wt_none rfl) (ev_dep (j := 0) (by kernel_rfl) rfl rfl) (fun _ => by kernel_rfl) (fun _ => rfl)) ?_
      refine And.intro (ob_load rfl (wt_none rfl) (ev_dep (j := 1) (by kernel_rfl) rfl rfl) (fun w2 hb => run_load1 Tryz.underlying4 rfl ((B0.below hb).cell 0)) (fun _ _ => rfl)) ?_
      refine And.intro (ob_fieldAddr rfl (wt_none rfl) (ev_far rfl rfl) (fun _ => by kernel_rfl) (fun _ => rfl)) ?_
      refine And.intro (ob_fieldAddr rfl (wt_none rfl) (ev_dep (j := 3) (by kernel_rfl) rfl rfl) (fun _ => by kernel_rfl) (fun _ => rfl)) ?_
      refine And.intro (ob_load rfl (wt_none rfl) (ev_dep (j := 4) (by kernel_rfl) rfl rfl) (fun w2 hb => run_load1 Tryz.underlying4 rfl ((B1.below hb).cell 0)) (fun _ _ => rfl)) ?_
      refine And.intro (ob_bin rfl (wt_none rfl) (ev_dep (j := 2) (by kernel_rfl) rfl rfl) (ev_dep (j := 5) (by kernel_rfl) rfl rfl) (fun _ _ _ hx hy => ⟨.bool false, by rw [hx, hy]; exact (bin_eql_bool _ _ _ _ Tryz.underlying4 _).trans (by rw [HE.out]), rfl⟩)) ?_
      refine And.intro (ob_move rfl (wt_none rfl) (ev_dep (j := 6) (by kernel_rfl) rfl rfl) (fun _ _ h => h)) ?_
      refine And.intro (ob_not (wt_dep (c := false) (b := true) (g := 7) rfl (by kernel_rfl) rfl rfl rfl (by exact fun _ _ h => h)) (fun _ => trivial) rfl) ?_
      refine And.intro (ob_not (wt_dep (c := false) (b := true) (g := 7) rfl (by kernel_rfl) rfl rfl rfl (by exact fun _ _ h => h)) (fun _ => trivial) rfl) ?_
      refine And.intro (ob_not (wt_dep (c := false) (b := true) (g := 7) rfl (by kernel_rfl) rfl rfl rfl (by exact fun _ _ h => h)) (fun _ => trivial) rfl) ?_
      refine And.intro (ob_not (wt_dep (c := false) (b := true) (g := 7) rfl (by kernel_rfl) rfl rfl rfl (by exact fun _ _ h => h)) (fun _ => trivial) rfl) ?_
      refine And.intro (ob_not (wt_dep (c := false) (b := true) (g := 7) rfl (by kernel_rfl) rfl rfl rfl (by exact fun _ _ h => h)) (fun _ => trivial) rfl) ?_
      refine And.intro (ob_not (wt_dep (c := false) (b := true) (g := 7) rfl (by kernel_rfl) rfl rfl rfl (by exact fun _ _ h => h)) (fun _ => trivial) rfl) ?_
      refine And.intro (ob_not (wt_dep (c := false) (b := true) (g := 7) rfl (by kernel_rfl) rfl rfl rfl (by exact fun _ _ h => h)) (fun _ => trivial) rfl) ?_
      refine And.intro (ob_pick (b := false) rfl (wt_none rfl) (ev_dep (j := 7) (by kernel_rfl) rfl rfl) (ev_const _) (fun _ _ h => h)) ?_
      refine And.intro (ob_move rfl (wt_none rfl) (ev_dep (j := 15) (by kernel_rfl) rfl rfl) (fun _ _ h => h)) ?_
      refine And.intro (ob_not (wt_dep (c := false) (b := true) (g := 16) rfl (by kernel_rfl) rfl rfl rfl (by exact fun _ _ h => h)) (fun _ => trivial) rfl) ?_
      refine And.intro (ob_not (wt_dep (c := false) (b := true) (g := 16) rfl (by kernel_rfl) rfl rfl rfl (by exact fun _ _ h => h)) (fun _ => trivial) rfl) ?_
      refine And.intro (ob_not (wt_dep (c := false) (b := true) (g := 16) rfl (by kernel_rfl) rfl rfl rfl (by exact fun _ _ h => h)) (fun _ => trivial) rfl) ?_
      refine And.intro (ob_not (wt_dep (c := false) (b := true) (g := 16) rfl (by kernel_rfl) rfl rfl rfl (by exact fun _ _ h => h)) (fun _ => trivial) rfl) ?_
      refine And.intro (ob_not (wt_dep (c := false) (b := true) (g := 16) rfl (by kernel_rfl) rfl rfl rfl (by exact fun _ _ h => h)) (fun _ => trivial) rfl) ?_
      refine And.intro (ob_pick (b := false) rfl (wt_none rfl) (ev_dep (j := 16) (by kernel_rfl) rfl rfl) (ev_const _) (fun _ _ h => h)) ?_
      refine And.intro (ob_assign rfl (wt_none rfl) (ev_dep (j := 22) (by kernel_rfl) rfl rfl) (fun _ _ h => h)) ?_
      trivial
    case done44 =>
      refine fun w1 hb1 v0 h0 v1 h1 v2 h2 v3 h3 v4 h4 v5 h5 v6 h6 v7 h7 v8 h8 v9 h9 v10 h10 v11 h11 v12 h12 v13 h13 v14 h14 v15 h15 v16 h16 v17 h17 v18 h18 v19 h19 v20 h20 v21 h21 v22 h22 v23 h23 b hbf => ?_
      obtain rfl := h0; obtain rfl := h1; obtain rfl := h2; obtain rfl := h3; obtain rfl := h4; obtain rfl := h5; obtain rfl := h6; obtain rfl := h7; obtain rfl := h15; obtain rfl := h16; obtain rfl := h22; obtain rfl := h23
      clear h8
      clear h9
      clear h10
      clear h11
      clear h12
      clear h13
      clear h14
      clear h17
      clear h18
      clear h19
      clear h20
      clear h21
      simp only [Act.put, List.setIfInBounds_toArray, List.set_cons_zero, List.set_cons_succ] at hbf
      subst hbf
      replace B0 := B0.below hb1
      replace k0s := k0s.below hb1
      replace k0d := k0d.below hb1
      replace k0z := k0z.below hb1
      replace k0 := k0.below hb1
      replace B1 := B1.below hb1
      replace k1s := k1s.below hb1
      replace k1d := k1d.below hb1
      replace k1z := k1z.below hb1
      replace k1 := k1.below hb1
      replace bb := bb.trans (hb1.mono bb.size)
      have hsz1 := bb.size
      refine ops_done ?_
      go_wp2
      go_ret
      exact ⟨rfl, bb⟩
theorem fsame_any (a0 a1 : Value) (x y : Rat) (b : Bool) (w : World) (h0 : IsQ w a0 x) (h1 : IsQ w a1 y) (hl : lenQ x 1000) (hl2 : lenQ y 1000) (hb : b = decide (x = y)) : Calls Tryz.prog 22 #[a0, a1] w (RetV (.bool b) w) := same8_any a0 a1 x y b w h0 h1 hb
end Go.Proofs.YtpcllhdfalebbaaGreatDoor.rat
set_option maxRecDepth 10000
set_option Elab.async false
set_option synthInstance.maxSize 1024
set_option maxHeartbeats 3200000
namespace Go.Proofs.YtpcllhdfalebbaaGreatDoor.rto
open Go Go.Proofs Go.Lib Go.RowKit Go.Proofs.YtpcllhdfalebbaaGreatDoor Go.Proofs.YtpcllhdfalebbaaGreatDoor.num Go.Proofs.YtpcllhdfalebbaaGreatDoor.mem Go.Proofs.YtpcllhdfalebbaaGreatDoor.nat Go.Proofs.YtpcllhdfalebbaaGreatDoor.txt Go.Proofs.YtpcllhdfalebbaaGreatDoor.str Go.Proofs.YtpcllhdfalebbaaGreatDoor.whl Go.Proofs.YtpcllhdfalebbaaGreatDoor.rat
set_option linter.unusedVariables false
set_option linter.unusedSimpArgs false
open Classical in
/-- Two texts read as numbers: an error's number, and both. -/
noncomputable def numsL (u v : List UInt8) : Int × Nat × Nat := if okS 10 u ∧ okS 10 v then (0, numS 10 u, numS 10 v) else (5, 0, 0)
open Classical in
/-- What a text's two parts are. -/
noncomputable def partsL (l : List UInt8) : Int × Nat × Nat :=
  if okS 10 (cutA l) then
    match cutB l with
    | [] => (0, numS 10 (cutA l), 1)
    | s :: r => if okS 10 r then (if s = 47 then (0, numS 10 (cutA l), numS 10 r) else (0, numS 10 (cutA l) * 10 ^ r.length + numS 10 r, 10 ^ r.length)) else (5, 0, 0)
  else (5, 0, 0)
theorem readP_parts {n : Nat} (hn : n ≠ 0) (l : List UInt8) : readP n l = if (partsL l).1 = 0 then (if (partsL l).2.2 = 0 then (3, 0) else (0, mkRat (((partsL l).2.1 : Nat) : Int) ((partsL l).2.2 * n))) else (5, 0) := by
  unfold readP partsL
  by_cases hA : okS 10 (cutA l)
  · rw [if_pos hA, if_pos hA]
    cases hB : cutB l with
    | nil => simp
    | cons s r =>
      simp only
      by_cases hR : okS 10 r
      · rw [if_pos hR, if_pos hR]
        by_cases hs : s = 47
        · rw [if_pos hs, if_pos hs]; simp
        · rw [if_neg hs, if_neg hs]
          have : 10 ^ r.length ≠ 0 := by have : 0 < 10 ^ r.length := Nat.pow_pos (by omega); omega
          simp [this]
      · rw [if_neg hR, if_neg hR]; simp
  · rw [if_neg hA, if_neg hA]; simp
theorem sep_cut {l m : List UInt8} {c : UInt8} (h : ∀ x ∈ l, sepB x = false) (hc : sepB c = true) : cutA (l ++ c :: m) = l ∧ cutB (l ++ c :: m) = c :: m := by
  induction l with
  | nil => simp [cutA, cutB, hc]
  | cons a l ih =>
    have ha := h a (by simp)
    have := ih fun x hx => h x (by simp [hx])
    unfold cutA cutB at this ⊢
    simp [ha, this.1, this.2]
theorem sep_all {l : List UInt8} (h : ∀ x ∈ l, sepB x = false) : cutA l = l ∧ cutB l = [] := by
  induction l with
  | nil => simp [cutA, cutB]
  | cons a l ih =>
    have ha := h a (by simp)
    have := ih fun x hx => h x (by simp [hx])
    unfold cutA cutB at this ⊢
    simp [ha, this.1, this.2]
theorem sepB_no {c : UInt8} (h1 : c ≠ 47) (h2 : c ≠ 46) : sepB c = false := by simp [sepB, h1, h2]
theorem bad_in {l : List UInt8} {c : UInt8} (h : c ∈ l) (hc : ¬ dv c < 10) : ¬ okS 10 l := fun k => hc (k.2 c h)
theorem cut_first {l : List UInt8} {c : UInt8} (h : c ∈ l) : ∃ u v, l = u ++ c :: v ∧ c ∉ u := by
  induction l with
  | nil => simp at h
  | cons a l ih =>
    by_cases e : a = c
    · exact ⟨[], l, by rw [e]; rfl, by simp⟩
    · obtain ⟨u, v, h1, h2⟩ := ih (by simpa [Ne.symm e] using h)
      exact ⟨a :: u, v, by rw [h1]; rfl, by simp [h2, Ne.symm e]⟩
theorem parts_slash {u v : List UInt8} (hu : (47 : UInt8) ∉ u) : partsL (u ++ 47 :: v) = numsL u v := by
  unfold partsL numsL
  by_cases h46 : (46 : UInt8) ∈ u
  · obtain ⟨u1, u2, rfl, h1⟩ := cut_first h46
    have hs : ∀ x ∈ u1, sepB x = false := fun x hx => sepB_no (fun e => hu (by subst e; simp [hx])) (fun e => h1 (by subst e; exact hx))
    have := sep_cut (m := u2 ++ 47 :: v) hs (c := 46) rfl
    rw [List.append_assoc, List.cons_append, this.1, this.2]
    have b1 : ¬ okS 10 (u2 ++ 47 :: v) := bad_in (c := 47) (by simp) (by decide)
    have b2 : ¬ okS 10 (u1 ++ 46 :: u2) := bad_in (c := 46) (by simp) (by decide)
    simp only [if_neg b1, b2, false_and, if_false, ite_self]
  · have hs : ∀ x ∈ u, sepB x = false := fun x hx => sepB_no (fun e => hu (by subst e; exact hx)) (fun e => h46 (by subst e; exact hx))
    have := sep_cut (m := v) hs (c := 47) rfl
    rw [this.1, this.2]
    by_cases h1 : okS 10 u
    · by_cases h2 : okS 10 v
      · simp [h1, h2]
      · simp [h1, h2]
    · simp [h1]
theorem unit_ok {b n : Nat} (hb : 2 ≤ b) : okS b (49 :: List.replicate n 48) := by
  refine ⟨by simp, fun c hc => ?_⟩
  rcases List.mem_cons.1 hc with rfl | hc
  · have : dv 49 = 1 := by decide
    omega
  · obtain ⟨_, rfl⟩ := List.mem_replicate.1 hc
    have : dv 48 = 0 := by decide
    omega
theorem unit_num {b n : Nat} : numS b (49 :: List.replicate n 48) = b ^ n := by
  have h := numS_append b [49] (List.replicate n 48)
  have h0 : numS b (List.replicate n 48) = 0 := by
    have := numS_noughts b n []
    rw [List.append_nil] at this
    rw [this]; rfl
  have h1 : numS b [49] = 1 := by
    have : dv 49 = 1 := by decide
    simp [numS, this, val]
  rw [show (49 : UInt8) :: List.replicate n 48 = [49] ++ List.replicate n 48 from rfl, h, h0, h1, List.length_replicate]; omega
theorem parts_point {u v : List UInt8} (h1 : (47 : UInt8) ∉ u) (h2 : (46 : UInt8) ∉ u) (hu : u ≠ []) (hv : v ≠ []) : partsL (u ++ 46 :: v) = numsL (u ++ v) (49 :: List.replicate v.length 48) := by
  unfold partsL numsL
  have hs : ∀ x ∈ u, sepB x = false := fun x hx => sepB_no (fun e => h1 (by subst e; exact hx)) (fun e => h2 (by subst e; exact hx))
  have := sep_cut (m := v) hs (c := 46) rfl
  rw [this.1, this.2]
  have hone : okS 10 (49 :: List.replicate v.length 48) := unit_ok (by omega)
  by_cases ou : okS 10 u
  · by_cases ov : okS 10 v
    · have huv : okS 10 (u ++ v) := okS_append ou ov.2
      simp only [if_pos ou, if_pos ov, huv, hone, and_self, if_true, unit_num, numS_append]
      rw [if_neg (by decide)]
    · have huv : ¬ okS 10 (u ++ v) := fun h => ov ⟨hv, fun c hc => h.2 c (by simp [hc])⟩
      simp [ou, ov, huv]
  · have huv : ¬ okS 10 (u ++ v) := fun h => ou ⟨hu, fun c hc => h.2 c (by simp [hc])⟩
    simp [ou, huv]
theorem parts_bare {u v : List UInt8} (h1 : (47 : UInt8) ∉ u) (h2 : (46 : UInt8) ∉ u) (h : u = [] ∨ v = []) : partsL (u ++ 46 :: v) = (5, 0, 0) := by
  unfold partsL
  have hs : ∀ x ∈ u, sepB x = false := fun x hx => sepB_no (fun e => h1 (by subst e; exact hx)) (fun e => h2 (by subst e; exact hx))
  have := sep_cut (m := v) hs (c := 46) rfl
  rw [this.1, this.2]
  rcases h with rfl | rfl
  · rw [if_neg (fun k : okS 10 [] => k.1 rfl)]
  · have : ¬ okS 10 [] := fun k => k.1 rfl
    simp [this]
theorem parts_whole {l : List UInt8} (h1 : (47 : UInt8) ∉ l) (h2 : (46 : UInt8) ∉ l) : partsL l = numsL l [49] := by
  unfold partsL numsL
  have := sep_all fun x hx => sepB_no (fun e => h1 (by subst e; exact hx)) (fun e => h2 (by subst e; exact hx)) (c := x)
  rw [this.1, this.2]
  have o1 : okS 10 [49] := unit_ok (n := 0) (by omega)
  have n1 : numS 10 [49] = 1 := unit_num (n := 0)
  by_cases ou : okS 10 l
  · simp [ou, o1, n1]
  · simp [ou]
/-- A number's twos and fives, and what is left. -/
def Fac (d t f r : Nat) : Prop := d = 2 ^ t * 5 ^ f * r ∧ ¬ 2 ∣ r ∧ ¬ 5 ∣ r
theorem cop_of {p r : Nat} (hp : p = 2 ∨ p = 5) (h : ¬ p ∣ r) : Nat.Coprime p r := by
  unfold Nat.Coprime
  have h1 : Nat.gcd p r ∣ p := Nat.gcd_dvd_left p r
  have h2 : Nat.gcd p r ∣ r := Nat.gcd_dvd_right p r
  have hle : Nat.gcd p r ≤ p := Nat.le_of_dvd (by omega) h1
  rcases hp with rfl | rfl
  · generalize Nat.gcd 2 r = g at *
    have : g = 0 ∨ g = 1 ∨ g = 2 := by omega
    rcases this with rfl | rfl | rfl
    · revert h1; decide
    · rfl
    · exact absurd h2 h
  · generalize Nat.gcd 5 r = g at *
    have : g = 0 ∨ g = 1 ∨ g = 2 ∨ g = 3 ∨ g = 4 ∨ g = 5 := by omega
    rcases this with rfl | rfl | rfl | rfl | rfl | rfl
    · revert h1; decide
    · rfl
    · revert h1; decide
    · revert h1; decide
    · revert h1; decide
    · exact absurd h2 h
theorem Fac.one {d t f r n : Nat} (h : Fac d t f r) (hd : d ∣ 10 ^ n) : r = 1 := by
  have c2 := cop_of (.inl rfl) h.2.1
  have c5 := cop_of (.inr rfl) h.2.2
  have c10 : Nat.Coprime (10 ^ n) r := by
    have : Nat.Coprime (2 * 5) r := Nat.Coprime.mul_left c2 c5
    exact Nat.Coprime.pow_left n this
  have hr : r ∣ 10 ^ n := Nat.dvd_trans ⟨2 ^ t * 5 ^ f, by rw [h.1, Nat.mul_comm]⟩ hd
  exact Nat.Coprime.eq_one_of_dvd c10.symm hr
theorem ten_split (n : Nat) : (10 : Nat) ^ n = 2 ^ n * 5 ^ n := by rw [show (10 : Nat) = 2 * 5 from rfl, Nat.mul_pow]
theorem two_le {t n : Nat} (h : 2 ^ t ∣ 10 ^ n) : t ≤ n := by
  rw [ten_split] at h
  have c : Nat.Coprime (2 ^ t) (5 ^ n) := Nat.Coprime.pow t n (by decide)
  exact (Nat.pow_dvd_pow_iff_le_right (by omega)).1 (Nat.Coprime.dvd_of_dvd_mul_right c h)
theorem five_le {t n : Nat} (h : 5 ^ t ∣ 10 ^ n) : t ≤ n := by
  rw [ten_split] at h
  have c : Nat.Coprime (5 ^ t) (2 ^ n) := Nat.Coprime.pow t n (by decide)
  exact (Nat.pow_dvd_pow_iff_le_right (by omega)).1 (Nat.Coprime.dvd_of_dvd_mul_left c h)
theorem fac_split {t f n : Nat} (ht : t ≤ n) (hf : f ≤ n) : (10 : Nat) ^ n = 2 ^ t * 5 ^ f * (2 ^ (n - t) * 5 ^ (n - f)) := by
  rw [ten_split]
  have e2 : (2 : Nat) ^ n = 2 ^ t * 2 ^ (n - t) := by rw [← Nat.pow_add]; congr 1; omega
  have e5 : (5 : Nat) ^ n = 5 ^ f * 5 ^ (n - f) := by rw [← Nat.pow_add]; congr 1; omega
  rw [e2, e5]
  simp only [Nat.mul_assoc, Nat.mul_left_comm, Nat.mul_comm]
theorem Fac.least {d t f r n : Nat} (h : Fac d t f r) (hd : d ∣ 10 ^ n) (hm : ∀ m, m < n → ¬ d ∣ 10 ^ m) : r = 1 ∧ n = max t f := by
  have h1 := h.one hd
  subst h1
  have e := h.1
  rw [Nat.mul_one] at e
  refine ⟨rfl, ?_⟩
  have l2 : t ≤ n := two_le (Nat.dvd_trans ⟨5 ^ f, e⟩ hd)
  have l5 : f ≤ n := five_le (Nat.dvd_trans ⟨2 ^ t, by rw [e, Nat.mul_comm]⟩ hd)
  rcases Nat.lt_or_ge (max t f) n with hlt | hge
  · exact absurd ⟨_, by rw [e]; exact fac_split (Nat.le_max_left t f) (Nat.le_max_right t f)⟩ (hm _ hlt)
  · exact Nat.le_antisymm hge (Nat.max_le.2 ⟨l2, l5⟩)
theorem Fac.quot {d t f n a : Nat} (h : Fac d t f 1) (hn : n = max t f) : a * 10 ^ n / d = a * 2 ^ (n - t) * 5 ^ (n - f) := by
  have e := h.1
  rw [Nat.mul_one] at e
  have ht : t ≤ n := by rw [hn]; exact Nat.le_max_left _ _
  have hf : f ≤ n := by rw [hn]; exact Nat.le_max_right _ _
  have hp : 0 < d := by rw [e]; exact Nat.mul_pos (Nat.pow_pos (by omega)) (Nat.pow_pos (by omega))
  rw [fac_split ht hf, ← e]
  rw [show a * (d * (2 ^ (n - t) * 5 ^ (n - f))) = (a * 2 ^ (n - t) * 5 ^ (n - f)) * d by simp only [Nat.mul_assoc, Nat.mul_left_comm, Nat.mul_comm]]
  exact Nat.mul_div_cancel _ hp
/-- What is left of a number when another was taken out of it as often as it goes. -/
def Outs (x d t y : Nat) : Prop := x = d ^ t * y ∧ ¬ d ∣ y
theorem Outs.fac {d c1 c2 c3 c4 x1 x2 x3 x4 : Nat} (h1 : Outs d 2147483648 c1 x1) (h2 : Outs x1 2 c2 x2) (h3 : Outs x2 1220703125 c3 x3) (h4 : Outs x3 5 c4 x4) : Fac d (31 * c1 + c2) (13 * c3 + c4) x4 := by
  obtain ⟨e1, _⟩ := h1
  obtain ⟨e2, n2⟩ := h2
  obtain ⟨e3, _⟩ := h3
  obtain ⟨e4, n4⟩ := h4
  refine ⟨?_, fun h => n2 ?_, n4⟩
  · rw [e1, e2, e3, e4, Nat.pow_add, Nat.pow_add, Nat.pow_mul, Nat.pow_mul, show (2 : Nat) ^ 31 = 2147483648 from rfl, show (5 : Nat) ^ 13 = 1220703125 from rfl]
    simp only [Nat.mul_assoc]
  · rw [e3, e4]
    exact Nat.dvd_mul_left_of_dvd (Nat.dvd_mul_left_of_dvd h _) _
theorem outs_lt {x d t y : Nat} (hx : x = d ^ t * y) (hy : y ≠ 0) (hd : 2 ≤ d) : t < nbits x := by
  have h1 : 2 ^ t ≤ x := by
    rw [hx]
    exact Nat.le_trans (Nat.pow_le_pow_left hd t) (Nat.le_mul_of_pos_right _ (by omega))
  exact ten_bits h1
end Go.Proofs.YtpcllhdfalebbaaGreatDoor.rto
set_option maxRecDepth 10000
set_option Elab.async false
namespace Go.Proofs.YtpcllhdfalebbaaGreatDoor.rto
open Go Go.Proofs Go.Lib Go.RowKit Go.Proofs.YtpcllhdfalebbaaGreatDoor Go.Proofs.YtpcllhdfalebbaaGreatDoor.num Go.Proofs.YtpcllhdfalebbaaGreatDoor.mem Go.Proofs.YtpcllhdfalebbaaGreatDoor.nat Go.Proofs.YtpcllhdfalebbaaGreatDoor.txt Go.Proofs.YtpcllhdfalebbaaGreatDoor.str Go.Proofs.YtpcllhdfalebbaaGreatDoor.flow Go.Proofs.YtpcllhdfalebbaaGreatDoor.whl Go.Proofs.YtpcllhdfalebbaaGreatDoor.rat
set_option linter.unusedVariables false
theorem idx_no {l : List UInt8} {c : UInt8} (h : c ∉ l) : Lib.indexByte l c = -1 := indexByte_none fun b hb e => h (e ▸ hb)
theorem idx_yes {u v : List UInt8} {c : UInt8} (h : c ∉ u) : Lib.indexByte (u ++ c :: v) c = (u.length : Int) := by
  induction u with
  | nil => simp [Lib.indexByte]
  | cons b u ih =>
    have h1 : (b == c) = false := by rw [beq_eq_false_iff_ne]; rintro rfl; exact h (by simp)
    have h2 := ih fun x => h (by simp [x])
    rw [List.cons_append, Lib.indexByte, h1, h2, if_neg (by simp), if_neg (by simp)]
    simp
/-- Two texts, and a truth. -/
def RetCut3 (u v : List UInt8) (b : Bool) (w : World) (e : Ending) (w' : World) : Prop := ∃ R T, e = .returned (.tuple #[.string R, .string T, .bool b]) ∧ StrIs R u ∧ StrIs T v ∧ Below w.heap.size w w'
set_option maxHeartbeats 800000 in
theorem sindex_slash (S : ByteArray) (l : List UInt8) (n : Int) (w : World) (hS : StrIs S l) (hn : Lib.indexByte l 47 = n) :
    Calls Tryz.prog 116 #[.string S, .string ⟨#[47]⟩] w (RetV (.int .i64 n) w) := by
  by_cases h1 : l = [47]
  · have hn0 : n = 0 := by rw [← hn, h1]; rfl
    have hcut : (([47] : List UInt8) == S.toList) = true := by rw [Lib.toList_data, hS, h1]; rfl
    clear hn h1
    subst hn0
    go_enter Tryz.func116, Tryz.ntmps116
    go_wp2
    go_ret
    exact ⟨rfl, Below.refl _ _⟩
  · have hcut : (([47] : List UInt8) == S.toList) = false := by rw [Lib.toList_data, hS, beq_eq_false_iff_ne]; exact fun e => h1 e.symm
    clear h1
    go_enter Tryz.func116, Tryz.ntmps116
    go_wp2_with fail
    refine (sliteByte_any S l _ _ hS).mono ?_
    rintro e w1 ⟨rfl, rfl⟩
    go_wp2
    go_ret
    exact ⟨congrArg (fun z => Ending.returned (Value.int .i64 z)) hn, Below.refl _ _⟩
set_option maxHeartbeats 800000 in
theorem scut_slash_yes (S : ByteArray) (u v : List UInt8) (w : World) (hS : StrIs S (u ++ 47 :: v)) (hlen : (u ++ 47 :: v).length ≤ 1000000) (hu : (47 : UInt8) ∉ u) :
    Calls Tryz.prog 89 #[.string S, .string ⟨#[47]⟩] w (RetCut3 u v true w) := by
  have hsz := hS.size
  rw [List.length_append, List.length_cons] at hsz hlen
  have hn := idx_yes (v := v) hu
  obtain ⟨k, hk⟩ : ∃ k, k = u.length := ⟨_, rfl⟩
  rw [← hk] at hn hsz hlen
  have hk1 : (k : Int) ≤ (S.size : Int) := by omega
  have hk2 : (k : Int) + 1 ≤ (S.size : Int) := by omega
  have hk3 : k ≤ S.size := by omega
  have hk4 : k + 1 ≤ S.size := by omega
  have hk5 : k ≤ 1000000 := by omega
  have hk6 : S.size ≤ 1000000 := by omega
  have HK := Lib.hid hk
  clear hk hsz hlen
  go_enter Tryz.func89, Tryz.ntmps89
  go_wp2_with fail
  refine (sindex_slash S _ _ _ hS hn).mono ?_
  rintro e w1 ⟨rfl, b1⟩
  go_wp2
  have hcast : (((k + 1 : Nat) : Int)) = (k : Int) + 1 := by omega
  have hRu : StrIs (S.extract 0 k) u := by
    have h := hS.to_ k
    rw [HK.out, List.take_left] at h
    rw [HK.out]; exact h
  have hTv : StrIs (S.extract (k + 1) S.size) v := by
    have h := hS.from_ (k + 1)
    rw [HK.out, show u ++ 47 :: v = (u ++ [47]) ++ v by simp, show u.length + 1 = (u ++ [47]).length by simp, List.drop_left] at h
    rw [HK.out]; simpa using h
  clear hn hcast
  go_region
  all_goals
    go_wp2
    go_ret3
    exact ⟨_, _, rfl, hRu, hTv, b1.drew⟩
set_option maxHeartbeats 800000 in
theorem scut_slash_no (S : ByteArray) (l : List UInt8) (w : World) (hS : StrIs S l) (hu : (47 : UInt8) ∉ l) :
    Calls Tryz.prog 89 #[.string S, .string ⟨#[47]⟩] w (RetCut3 l [] false w) := by
  have hn := idx_no hu
  go_enter Tryz.func89, Tryz.ntmps89
  go_wp2_with fail
  refine (sindex_slash S _ _ _ hS hn).mono ?_
  rintro e w1 ⟨rfl, b1⟩
  go_wp2
  go_ret3
  exact ⟨_, _, rfl, hS, rfl, b1⟩
set_option maxHeartbeats 800000 in
theorem cut_slash_yes (S : ByteArray) (u v : List UInt8) (w : World) (hS : StrIs S (u ++ 47 :: v)) (hlen : (u ++ 47 :: v).length ≤ 1000000) (hu : (47 : UInt8) ∉ u) :
    Calls Tryz.prog 61 #[.string S, .string ⟨#[47]⟩] w (RetCut3 u v true w) := by
  go_enter Tryz.func61, Tryz.ntmps61
  go_wp2_with fail
  refine (scut_slash_yes S _ _ _ hS hlen hu).mono ?_
  rintro e w1 ⟨R, T, rfl, hR, hT, b1⟩
  go_wp2
  go_ret3
  exact ⟨_, _, rfl, hR, hT, b1⟩
set_option maxHeartbeats 800000 in
theorem cut_slash_no (S : ByteArray) (l : List UInt8) (w : World) (hS : StrIs S l) (hu : (47 : UInt8) ∉ l) :
    Calls Tryz.prog 61 #[.string S, .string ⟨#[47]⟩] w (RetCut3 l [] false w) := by
  go_enter Tryz.func61, Tryz.ntmps61
  go_wp2_with fail
  refine (scut_slash_no S _ _ hS hu).mono ?_
  rintro e w1 ⟨R, T, rfl, hR, hT, b1⟩
  go_wp2
  go_ret3
  exact ⟨_, _, rfl, hR, hT, b1⟩
set_option maxHeartbeats 800000 in
theorem sindex_point (S : ByteArray) (l : List UInt8) (n : Int) (w : World) (hS : StrIs S l) (hn : Lib.indexByte l 46 = n) :
    Calls Tryz.prog 116 #[.string S, .string ⟨#[46]⟩] w (RetV (.int .i64 n) w) := by
  by_cases h1 : l = [46]
  · have hn0 : n = 0 := by rw [← hn, h1]; rfl
    have hcut : (([46] : List UInt8) == S.toList) = true := by rw [Lib.toList_data, hS, h1]; rfl
    clear hn h1
    subst hn0
    go_enter Tryz.func116, Tryz.ntmps116
    go_wp2
    go_ret
    exact ⟨rfl, Below.refl _ _⟩
  · have hcut : (([46] : List UInt8) == S.toList) = false := by rw [Lib.toList_data, hS, beq_eq_false_iff_ne]; exact fun e => h1 e.symm
    clear h1
    go_enter Tryz.func116, Tryz.ntmps116
    go_wp2_with fail
    refine (sliteByte_any S l _ _ hS).mono ?_
    rintro e w1 ⟨rfl, rfl⟩
    go_wp2
    go_ret
    exact ⟨congrArg (fun z => Ending.returned (Value.int .i64 z)) hn, Below.refl _ _⟩
set_option maxHeartbeats 800000 in
theorem scut_point_yes (S : ByteArray) (u v : List UInt8) (w : World) (hS : StrIs S (u ++ 46 :: v)) (hlen : (u ++ 46 :: v).length ≤ 1000000) (hu : (46 : UInt8) ∉ u) :
    Calls Tryz.prog 89 #[.string S, .string ⟨#[46]⟩] w (RetCut3 u v true w) := by
  have hsz := hS.size
  rw [List.length_append, List.length_cons] at hsz hlen
  have hn := idx_yes (v := v) hu
  obtain ⟨k, hk⟩ : ∃ k, k = u.length := ⟨_, rfl⟩
  rw [← hk] at hn hsz hlen
  have hk1 : (k : Int) ≤ (S.size : Int) := by omega
  have hk2 : (k : Int) + 1 ≤ (S.size : Int) := by omega
  have hk3 : k ≤ S.size := by omega
  have hk4 : k + 1 ≤ S.size := by omega
  have hk5 : k ≤ 1000000 := by omega
  have hk6 : S.size ≤ 1000000 := by omega
  have HK := Lib.hid hk
  clear hk hsz hlen
  go_enter Tryz.func89, Tryz.ntmps89
  go_wp2_with fail
  refine (sindex_point S _ _ _ hS hn).mono ?_
  rintro e w1 ⟨rfl, b1⟩
  go_wp2
  have hcast : (((k + 1 : Nat) : Int)) = (k : Int) + 1 := by omega
  have hRu : StrIs (S.extract 0 k) u := by
    have h := hS.to_ k
    rw [HK.out, List.take_left] at h
    rw [HK.out]; exact h
  have hTv : StrIs (S.extract (k + 1) S.size) v := by
    have h := hS.from_ (k + 1)
    rw [HK.out, show u ++ 46 :: v = (u ++ [46]) ++ v by simp, show u.length + 1 = (u ++ [46]).length by simp, List.drop_left] at h
    rw [HK.out]; simpa using h
  clear hn hcast
  go_region
  all_goals
    go_wp2
    go_ret3
    exact ⟨_, _, rfl, hRu, hTv, b1.drew⟩
set_option maxHeartbeats 800000 in
theorem scut_point_no (S : ByteArray) (l : List UInt8) (w : World) (hS : StrIs S l) (hu : (46 : UInt8) ∉ l) :
    Calls Tryz.prog 89 #[.string S, .string ⟨#[46]⟩] w (RetCut3 l [] false w) := by
  have hn := idx_no hu
  go_enter Tryz.func89, Tryz.ntmps89
  go_wp2_with fail
  refine (sindex_point S _ _ _ hS hn).mono ?_
  rintro e w1 ⟨rfl, b1⟩
  go_wp2
  go_ret3
  exact ⟨_, _, rfl, hS, rfl, b1⟩
set_option maxHeartbeats 800000 in
theorem cut_point_yes (S : ByteArray) (u v : List UInt8) (w : World) (hS : StrIs S (u ++ 46 :: v)) (hlen : (u ++ 46 :: v).length ≤ 1000000) (hu : (46 : UInt8) ∉ u) :
    Calls Tryz.prog 61 #[.string S, .string ⟨#[46]⟩] w (RetCut3 u v true w) := by
  go_enter Tryz.func61, Tryz.ntmps61
  go_wp2_with fail
  refine (scut_point_yes S _ _ _ hS hlen hu).mono ?_
  rintro e w1 ⟨R, T, rfl, hR, hT, b1⟩
  go_wp2
  go_ret3
  exact ⟨_, _, rfl, hR, hT, b1⟩
set_option maxHeartbeats 800000 in
theorem cut_point_no (S : ByteArray) (l : List UInt8) (w : World) (hS : StrIs S l) (hu : (46 : UInt8) ∉ l) :
    Calls Tryz.prog 61 #[.string S, .string ⟨#[46]⟩] w (RetCut3 l [] false w) := by
  go_enter Tryz.func61, Tryz.ntmps61
  go_wp2_with fail
  refine (scut_point_no S _ _ hS hu).mono ?_
  rintro e w1 ⟨R, T, rfl, hR, hT, b1⟩
  go_wp2
  go_ret3
  exact ⟨_, _, rfl, hR, hT, b1⟩
set_option maxHeartbeats 800000 in
theorem hassuf_any (S : ByteArray) (l : List UInt8) (b : Bool) (w : World) (hS : StrIs S l) (hlen : l.length ≤ 1000000) (hb : b = decide (l.getLast? = some 37)) :
    Calls Tryz.prog 88 #[.string S, .string ⟨#[37]⟩] w (RetV (.bool b) w) := by
  have hsz := hS.size
  by_cases hl : l = []
  · have hb0 : b = false := by rw [hb, hl]; rfl
    have hs0 : S.size = 0 := by rw [hsz, hl]; rfl
    have h1 : ¬ (1 : Int) ≤ (S.size : Int) := by omega
    clear hb hsz
    subst hb0
    go_enter Tryz.func88, Tryz.ntmps88
    go_wp2
    go_ret
    exact ⟨rfl, Below.refl _ _⟩
  · have hp : 0 < l.length := List.length_pos_iff.2 hl
    have h1 : (1 : Int) ≤ (S.size : Int) := by omega
    have h2 : 1 ≤ S.size := by omega
    have hw : wrap64 ((S.size - 1 : Nat) : Int) = ((S.size - 1 : Nat) : Int) := by unfold wrap64; omega
    have hk3 : S.size - 1 ≤ S.size := by omega
    have hk5 : S.size ≤ 1000000 := by omega
    have hk4 : ((S.size - 1 : Nat) : Int) ≤ (S.size : Int) := by omega
    have hcut : ((S.extract (S.size - 1) S.size).toList == [37]) = b := by
      rw [Lib.toList_data, hS.from_ (S.size - 1), hb]
      have hl1 : l.dropLast ++ [l.getLast hl] = l := List.dropLast_concat_getLast hl
      have hd : l.drop (S.size - 1) = [l.getLast hl] := by
        have h : l.drop (l.length - 1) = (l.dropLast ++ [l.getLast hl]).drop (l.length - 1) := by rw [hl1]
        rw [hsz, h, ← List.length_dropLast, List.drop_left]
      rw [hd, List.getLast?_eq_some_getLast hl]
      by_cases e : l.getLast hl = 37
      · simp [e]
      · simp [e]
    clear hsz hb
    go_enter Tryz.func88, Tryz.ntmps88
    go_wp2
    go_ret
    exact ⟨rfl, Below.refl _ _⟩
set_option maxHeartbeats 800000 in
theorem cutsuf_yes (S : ByteArray) (l : List UInt8) (w : World) (hS : StrIs S l) (hlen : l.length ≤ 1000000) (hp : l.getLast? = some 37) :
    Calls Tryz.prog 60 #[.string S, .string ⟨#[37]⟩] w (RetSB l.dropLast true w) := by
  have hsz := hS.size
  have hl0 : 0 < l.length := by
    cases l with
    | nil => simp at hp
    | cons a l => simp
  have h1 : (1 : Int) ≤ (S.size : Int) := by omega
  have h2 : 1 ≤ S.size := by omega
  have hk3 : S.size - 1 ≤ S.size := by omega
  have hk5 : S.size ≤ 1000000 := by omega
  have hk4 : ((S.size - 1 : Nat) : Int) ≤ (S.size : Int) := by omega
  have hcut : StrIs (S.extract 0 (S.size - 1)) l.dropLast := by
    have h := hS.to_ (S.size - 1)
    rw [List.dropLast_eq_take, ← hsz]; exact h
  clear hsz
  go_enter Tryz.func60, Tryz.ntmps60
  go_wp2_with fail
  refine (hassuf_any S l true _ hS hlen (by rw [hp]; rfl)).mono ?_
  rintro e w1 ⟨rfl, b1⟩
  go_wp2
  go_ret2
  exact ⟨_, rfl, hcut, b1⟩
set_option maxHeartbeats 800000 in
theorem cutsuf_no (S : ByteArray) (l : List UInt8) (w : World) (hS : StrIs S l) (hlen : l.length ≤ 1000000) (hp : ¬ l.getLast? = some 37) :
    Calls Tryz.prog 60 #[.string S, .string ⟨#[37]⟩] w (RetSB l false w) := by
  go_enter Tryz.func60, Tryz.ntmps60
  go_wp2_with fail
  refine (hassuf_any S l false _ hS hlen (by simp [hp])).mono ?_
  rintro e w1 ⟨rfl, b1⟩
  go_wp2
  go_ret2
  exact ⟨_, rfl, hS, b1⟩
theorem suffix_any (S : ByteArray) (l t : List UInt8) (b : Bool) (w : World) (hS : StrIs S l) (hlen : l.length ≤ 1000000) (h : (b = true ∧ l.getLast? = some 37 ∧ t = l.dropLast) ∨ (b = false ∧ ¬ l.getLast? = some 37 ∧ t = l)) :
    Calls Tryz.prog 23 #[.string S, .string ⟨#[37]⟩] w (RetSB t b w) := by
  have H : Calls Tryz.prog 60 #[.string S, .string ⟨#[37]⟩] w (RetSB t b w) := by
    rcases h with ⟨rfl, hp, rfl⟩ | ⟨rfl, hp, rfl⟩
    · exact cutsuf_yes S l w hS hlen hp
    · exact cutsuf_no S _ w hS hlen hp
  clear h
  go_enter Tryz.func23, Tryz.ntmps23
  go_wp2_with fail
  refine H.mono ?_
  rintro e w1 ⟨R, rfl, hR, b1⟩
  go_wp2
  go_ret2
  exact ⟨_, rfl, hR, b1⟩
end Go.Proofs.YtpcllhdfalebbaaGreatDoor.rto
