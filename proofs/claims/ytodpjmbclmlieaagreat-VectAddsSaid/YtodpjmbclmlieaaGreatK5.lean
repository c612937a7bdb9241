/- Package rat: its own contracts, each said of fractions: Same, One, May. Condition: as each says.
A region that draws its order, a chain of whose operations may come behind the first store and reads what was there: the stores write new variables alone, so it yields the same then. No program stands here.
Rows of fractions that the call makes at their full length: one block, written element by element; calls through a function's value. Condition: as each says.
Sorting by insertion: what its loops keep; powers of a fraction's parts; lists written from the front. Mathematics alone.
A copy of ints that a region makes: an empty row, and an append to it.
The document's product of two rows of fractions. Condition: as it says.
Where a row of fractions begins, and which place is the greatest.
Rows of fractions: sums, products with a row, where noughts and units begin. Mathematics alone.
Rows that a call makes, and hands on: words for its end. Condition: as each says.
Package vect: noughts, Zero, Unit. Condition: as each says.
Package vect: vanishes, Scale, Dot, Lead. Condition: as each says.
Package vect: own, EqualFunc, Less, Same, Greatest. Condition: as each says.
An append of one fraction to a row, in a region that draws its order: the new element's cells as an obligation of the flow, the append behind it. Condition: as each says.
Rows written out in a region: two fractions, two rows of fractions; as obligations of its flow. Condition: as each says.
Package vect: Add. Condition: as each says. -/
import Derived.Test.YtodpjmbclmlieaaGreatK4
import Derived.OrdersHeld
namespace Go.Proofs.YtodpjmbclmlieaaGreat.rat
open Go.RowKit Go.Proofs.YtodpjmbclmlieaaGreat.num Go.Proofs.YtodpjmbclmlieaaGreat.mem Go.Proofs.YtodpjmbclmlieaaGreat.nat Go.Proofs.YtodpjmbclmlieaaGreat.txt Go.Proofs.YtodpjmbclmlieaaGreat.str Go.Proofs.YtodpjmbclmlieaaGreat.flow Go.Proofs.YtodpjmbclmlieaaGreat.whl
set_option linter.unusedVariables false
theorem limbs_any (v u : Value) (l m : List Nat) (b : Bool) (w : World) (h : IsS w .u64 v l) (h' : IsS w .u64 u m) (hu : Lt 18446744073709551616 l) (hu' : Lt 18446744073709551616 m) (hb_ : b = sameB l m) :
    Calls Tryz.prog 68 #[v, u] w (RetV (.bool b) w) := by
  have HB := Lib.hid hb_
  clear hb_
  obtain ⟨A, c, rfl, hc, hm, hr⟩ := h
  obtain ⟨A', c', rfl, hc', hmm, hr'⟩ := h'
  unfold maxLen at hm hmm
  by_cases hne : l.length = m.length
  · have hb1 : ((l.length : Int) != (m.length : Int)) = false := by rw [hne]; simp
    have HL := Lib.hid hne
    have hl1 : l.length ≤ m.length := by omega
    have hl2 : m.length ≤ l.length := by omega
    clear hne
    go_enter Tryz.func68, Tryz.ntmps68
    go_wp2
    go_loopw [13] (fun vi wr => ∃ k : Nat, k ≤ l.length ∧ Hid (l.take k = m.take k) ∧ Below w.heap.size w wr ∧ vi = .int .i64 (k : Int)) (fun vi _ => l.length - (intOf vi).toNat)
    case atStart => exact ⟨0, by omega, by show _ = _; simp, Below.refl _ _, rfl⟩
    case round =>
      obtain ⟨k, hk, HT, hb, rfl⟩ := hrel
      by_cases hlt : k < l.length
      · obtain ⟨ad, d, rfl, hd, hcell⟩ := (hr.below hb).at_ hlt
        obtain ⟨ad', e, rfl, he, hcell'⟩ := (hr'.below hb).at_ (i := k) (by omega)
        by_cases hde : d = e
        · subst hde
          have HN : Hid (l.take (k + 1) = m.take (k + 1)) := by show _ = _; rw [take_step hd, take_step he, HT.out]
          have hz : ((d : Int) != (d : Int)) = false := by simp
          clear hd he
          go_wp2
          go_quiet (fail)
          go_wp2
          go_roundw
          case rel => exact ⟨k + 1, by omega, HN, below_drewN hb _, by go_num⟩
          case measure => simp [intOf]; omega
        · have HN : Hid (sameB l m = false) := sameB_at hd he hde
          have hz : ((d : Int) != (e : Int)) = true := by rw [bne_iff_ne]; omega
          clear hd he hde
          go_wp2
          go_quiet (fail)
          go_wp2
          go_ret
          exact ⟨by rw [HB.out, HN.out]; rfl, below_drewN hb _⟩
      · obtain rfl : k = l.length := by omega
        have HN : Hid (sameB l m = true) := by
          have := HT.out
          rw [List.take_length, List.take_of_length_le hl2] at this
          rw [this]; exact sameB_refl m
        go_wp2
        go_ret
        exact ⟨by rw [HB.out, HN.out]; rfl, hb⟩
  · have hb1 : ((l.length : Int) != (m.length : Int)) = true := by rw [bne_iff_ne]; omega
    have HN : Hid (sameB l m = false) := sameB_of_len hne
    clear hne
    go_enter Tryz.func68, Tryz.ntmps68
    go_wp2
    go_ret
    exact ⟨by rw [HB.out, HN.out]; rfl, Below.refl _ _⟩
theorem limbs_num (v u : Value) (x y : Nat) (b : Bool) (w : World) (h : IsS w .u64 v (digs 4294967296 x)) (h' : IsS w .u64 u (digs 4294967296 y)) (hb : b = decide (x = y)) :
    Calls Tryz.prog 68 #[v, u] w (RetV (.bool b) w) :=
  limbs_any v u _ _ b w h h' (digs_lt_u x) (digs_lt_u y) (by rw [hb, sameB_digs])
set_option maxHeartbeats 1600000 in
set_option maxRecDepth 100000 in
theorem same8_any (a0 a1 : Value) (x y : Rat) (b : Bool) (w : World) (h0 : IsQ w a0 x) (h1 : IsQ w a1 y) (hb : b = decide (x = y)) :
    Calls Tryz.prog 38 #[a0, a1] w (RetV (.bool b) w) := by
  by_cases hs : ngB x.num = ngB y.num
  · by_cases hn : x.num.natAbs = y.num.natAbs
    · obtain ⟨u0, t0, rfl, s0, r0⟩ := h0
      obtain ⟨A0, c0, rfl, _⟩ := id s0
      obtain ⟨D0, e0, rfl, _⟩ := id r0
      obtain ⟨u1, t1, rfl, s1, r1⟩ := h1
      obtain ⟨A1, c1, rfl, _⟩ := id s1
      obtain ⟨D1, e1, rfl, _⟩ := id r1
      have HE : Hid ((ngB x.num == ngB y.num) = true) := by show _ = _; rw [hs]; exact beq_self_eq_true _
      have HB : Hid (b = decide (x.den = y.den)) := by show _ = _; rw [hb, decide_eq_decide, eq_parts]; exact ⟨fun e => e.2, fun e => ⟨by rw [← sg_self x.num, ← sg_self y.num, hs, hn], e⟩⟩
      clear hb hs
      have HN : Hid (true = decide (x.num.natAbs = y.num.natAbs)) := (decide_eq_true hn).symm
      clear hn
      go_enter Tryz.func38, Tryz.ntmps38
      go_upto_region 1 with (fail)
      obtain ⟨wx, hwx, bb, B0, B1, hsz⟩ := vars2 w 28 28 #[.bool (ngB (x).num), .slice A0 (digs 4294967296 (x).num.natAbs).length c0, .slice D0 (digs 4294967296 (x).den).length e0] #[.bool (ngB (y).num), .slice A1 (digs 4294967296 (y).num.natAbs).length c1, .slice D1 (digs 4294967296 (y).den).length e1]
      rw [hwx]
      clear hwx
      have k0s := s0.below bb
      have k0d := r0.below bb
      have k0z : IsZ wx (.agg #[.bool (ngB (x).num), .slice A0 (digs 4294967296 (x).num.natAbs).length c0]) (x).num := ⟨_, rfl, k0s⟩
      have k0 : IsQ wx (.agg #[.bool (ngB (x).num), .slice A0 (digs 4294967296 (x).num.natAbs).length c0, .slice D0 (digs 4294967296 (x).den).length e0]) (x) := ⟨_, _, rfl, k0s, k0d⟩
      have k1s := s1.below bb
      have k1d := r1.below bb
      have k1z : IsZ wx (.agg #[.bool (ngB (y).num), .slice A1 (digs 4294967296 (y).num.natAbs).length c1]) (y).num := ⟨_, rfl, k1s⟩
      have k1 : IsQ wx (.agg #[.bool (ngB (y).num), .slice A1 (digs 4294967296 (y).num.natAbs).length c1, .slice D1 (digs 4294967296 (y).den).length e1]) (y) := ⟨_, _, rfl, k1s, k1d⟩
      have hsz0 := bb.size
      have sB := bb.size
      refine flowp 24 [Pd.eq (.pointer (some ⟨w.heap.size, 0, none⟩)), Pd.eq (.pointer (some ⟨w.heap.size, 0, none⟩)), Pd.eq (.bool (ngB (x).num)), Pd.eq (.pointer (some ⟨w.heap.size + 1, 0, none⟩)), Pd.eq (.pointer (some ⟨w.heap.size + 1, 0, none⟩)), Pd.eq (.bool (ngB (y).num)), Pd.eq (.bool true), Pd.eq (.bool true), Pd.eq (.pointer (some ⟨w.heap.size, 0, none⟩)), Pd.eq (.pointer (some ⟨w.heap.size, 1, none⟩)), Pd.eq (.slice A0 (digs 4294967296 (x).num.natAbs).length c0), Pd.eq (.pointer (some ⟨w.heap.size + 1, 0, none⟩)), Pd.eq (.pointer (some ⟨w.heap.size + 1, 1, none⟩)), Pd.eq (.slice A1 (digs 4294967296 (y).num.natAbs).length c1), Pd.eq (.bool true), Pd.eq (.bool true), Pd.eq (.bool true), Pd.eq (.pointer (some ⟨w.heap.size, 2, none⟩)), Pd.eq (.slice D0 (digs 4294967296 (x).den).length e0), Pd.eq (.pointer (some ⟨w.heap.size + 1, 2, none⟩)), Pd.eq (.slice D1 (digs 4294967296 (y).den).length e1), Pd.eq (.bool b), Pd.eq (.bool b), Pd.eq (.bool b)] (by kernel_rfl) ?ob46 ?done46
      case ob46 =>
        refine And.intro (ob_fieldAddr rfl (wt_none rfl) (ev_far rfl rfl) (fun _ => by kernel_rfl) (fun _ => rfl)) ?_
        refine And.intro (ob_fieldAddr rfl (wt_none rfl) (ev_dep (j := 0) (by kernel_rfl) rfl rfl) (fun _ => by kernel_rfl) (fun _ => rfl)) ?_
        refine And.intro (ob_load rfl (wt_none rfl) (ev_dep (j := 1) (by kernel_rfl) rfl rfl) (fun w2 hb => run_load1 Tryz.underlying4 rfl ((B0.below hb).cell 0)) (fun _ _ => rfl)) ?_
        refine And.intro (ob_fieldAddr rfl (wt_none rfl) (ev_far rfl rfl) (fun _ => by kernel_rfl) (fun _ => rfl)) ?_
        refine And.intro (ob_fieldAddr rfl (wt_none rfl) (ev_dep (j := 3) (by kernel_rfl) rfl rfl) (fun _ => by kernel_rfl) (fun _ => rfl)) ?_
        refine And.intro (ob_load rfl (wt_none rfl) (ev_dep (j := 4) (by kernel_rfl) rfl rfl) (fun w2 hb => run_load1 Tryz.underlying4 rfl ((B1.below hb).cell 0)) (fun _ _ => rfl)) ?_
        refine And.intro (ob_bin rfl (wt_none rfl) (ev_dep (j := 2) (by kernel_rfl) rfl rfl) (ev_dep (j := 5) (by kernel_rfl) rfl rfl) (fun _ _ _ hx hy => ⟨.bool true, by rw [hx, hy]; exact (bin_eql_bool _ _ _ _ Tryz.underlying4 _).trans (by rw [HE.out]), rfl⟩)) ?_
        refine And.intro (ob_move rfl (wt_none rfl) (ev_dep (j := 6) (by kernel_rfl) rfl rfl) (fun _ _ h => h)) ?_
        refine And.intro (ob_fieldAddr rfl (wt_dep (c := true) (b := true) (g := 7) rfl (by kernel_rfl) rfl rfl rfl (by exact fun _ _ h => h)) (ev_far rfl rfl) (fun _ => by kernel_rfl) (fun _ => rfl)) ?_
        refine And.intro (ob_fieldAddr rfl (wt_dep (c := true) (b := true) (g := 7) rfl (by kernel_rfl) rfl rfl rfl (by exact fun _ _ h => h)) (ev_dep (j := 8) (by kernel_rfl) rfl rfl) (fun _ => by kernel_rfl) (fun _ => rfl)) ?_
        refine And.intro (ob_load rfl (wt_dep (c := true) (b := true) (g := 7) rfl (by kernel_rfl) rfl rfl rfl (by exact fun _ _ h => h)) (ev_dep (j := 9) (by kernel_rfl) rfl rfl) (fun w2 hb => run_load1 Tryz.underlying24 rfl ((B0.below hb).cell 1)) (fun _ _ => rfl)) ?_
        refine And.intro (ob_fieldAddr rfl (wt_dep (c := true) (b := true) (g := 7) rfl (by kernel_rfl) rfl rfl rfl (by exact fun _ _ h => h)) (ev_far rfl rfl) (fun _ => by kernel_rfl) (fun _ => rfl)) ?_
        refine And.intro (ob_fieldAddr rfl (wt_dep (c := true) (b := true) (g := 7) rfl (by kernel_rfl) rfl rfl rfl (by exact fun _ _ h => h)) (ev_dep (j := 11) (by kernel_rfl) rfl rfl) (fun _ => by kernel_rfl) (fun _ => rfl)) ?_
        refine And.intro (ob_load rfl (wt_dep (c := true) (b := true) (g := 7) rfl (by kernel_rfl) rfl rfl rfl (by exact fun _ _ h => h)) (ev_dep (j := 12) (by kernel_rfl) rfl rfl) (fun w2 hb => run_load1 Tryz.underlying24 rfl ((B1.below hb).cell 1)) (fun _ _ => rfl)) ?_
        refine And.intro (ob_call2 rfl Tryz.func68 (by kernel_rfl) (wt_dep (c := true) (b := true) (g := 7) rfl (by kernel_rfl) rfl rfl rfl (by exact fun _ _ h => h)) (ev_dep (j := 10) (by kernel_rfl) rfl rfl) (ev_dep (j := 13) (by kernel_rfl) rfl rfl) (fun w2 u0 u1 hb h0 h1 => by obtain rfl := h0; obtain rfl := h1; exact (limbs_num _ _ (x).num.natAbs (y).num.natAbs true _ (k0s.below hb) (k1s.below hb) HN.out).mono fun e w3 h => RetV.pd h)) ?_
        refine And.intro (ob_pick (b := true) rfl (wt_none rfl) (ev_dep (j := 7) (by kernel_rfl) rfl rfl) (ev_dep (j := 14) (by kernel_rfl) rfl rfl) (fun _ _ h => h)) ?_
        refine And.intro (ob_move rfl (wt_none rfl) (ev_dep (j := 15) (by kernel_rfl) rfl rfl) (fun _ _ h => h)) ?_
        refine And.intro (ob_fieldAddr rfl (wt_dep (c := true) (b := true) (g := 16) rfl (by kernel_rfl) rfl rfl rfl (by exact fun _ _ h => h)) (ev_far rfl rfl) (fun _ => by kernel_rfl) (fun _ => rfl)) ?_
        refine And.intro (ob_load rfl (wt_dep (c := true) (b := true) (g := 16) rfl (by kernel_rfl) rfl rfl rfl (by exact fun _ _ h => h)) (ev_dep (j := 17) (by kernel_rfl) rfl rfl) (fun w2 hb => run_load1 Tryz.underlying24 rfl ((B0.below hb).cell 2)) (fun _ _ => rfl)) ?_
        refine And.intro (ob_fieldAddr rfl (wt_dep (c := true) (b := true) (g := 16) rfl (by kernel_rfl) rfl rfl rfl (by exact fun _ _ h => h)) (ev_far rfl rfl) (fun _ => by kernel_rfl) (fun _ => rfl)) ?_
        refine And.intro (ob_load rfl (wt_dep (c := true) (b := true) (g := 16) rfl (by kernel_rfl) rfl rfl rfl (by exact fun _ _ h => h)) (ev_dep (j := 19) (by kernel_rfl) rfl rfl) (fun w2 hb => run_load1 Tryz.underlying24 rfl ((B1.below hb).cell 2)) (fun _ _ => rfl)) ?_
        refine And.intro (ob_call2 rfl Tryz.func68 (by kernel_rfl) (wt_dep (c := true) (b := true) (g := 16) rfl (by kernel_rfl) rfl rfl rfl (by exact fun _ _ h => h)) (ev_dep (j := 18) (by kernel_rfl) rfl rfl) (ev_dep (j := 20) (by kernel_rfl) rfl rfl) (fun w2 u0 u1 hb h0 h1 => by obtain rfl := h0; obtain rfl := h1; exact (limbs_num _ _ (x).den (y).den b _ (k0d.below hb) (k1d.below hb) HB.out).mono fun e w3 h => RetV.pd h)) ?_
        refine And.intro (ob_pick (b := true) rfl (wt_none rfl) (ev_dep (j := 16) (by kernel_rfl) rfl rfl) (ev_dep (j := 21) (by kernel_rfl) rfl rfl) (fun _ _ h => h)) ?_
        refine And.intro (ob_assign rfl (wt_none rfl) (ev_dep (j := 22) (by kernel_rfl) rfl rfl) (fun _ _ h => h)) ?_
        trivial
      case done46 =>
        refine fun w1 hb1 v0 h0 v1 h1 v2 h2 v3 h3 v4 h4 v5 h5 v6 h6 v7 h7 v8 h8 v9 h9 v10 h10 v11 h11 v12 h12 v13 h13 v14 h14 v15 h15 v16 h16 v17 h17 v18 h18 v19 h19 v20 h20 v21 h21 v22 h22 v23 h23 b hbf => ?_
        obtain rfl := h0; obtain rfl := h1; obtain rfl := h2; obtain rfl := h3; obtain rfl := h4; obtain rfl := h5; obtain rfl := h6; obtain rfl := h7; obtain rfl := h8; obtain rfl := h9; obtain rfl := h10; obtain rfl := h11; obtain rfl := h12; obtain rfl := h13; obtain rfl := h14; obtain rfl := h15; obtain rfl := h16; obtain rfl := h17; obtain rfl := h18; obtain rfl := h19; obtain rfl := h20; obtain rfl := h21; obtain rfl := h22; obtain rfl := h23
        simp only [Act.put, List.setIfInBounds_toArray, List.set_cons_zero, List.set_cons_succ] at hbf
        subst hbf
        replace B0 := B0.below hb1
        replace k0s := k0s.below hb1
        replace k0d := k0d.below hb1
        replace k0z := k0z.below hb1
        replace k0 := k0.below hb1
        replace B1 := B1.below hb1
        replace k1s := k1s.below hb1
        replace k1d := k1d.below hb1
        replace k1z := k1z.below hb1
        replace k1 := k1.below hb1
        replace bb := bb.trans (hb1.mono bb.size)
        have hsz1 := bb.size
        refine ops_done ?_
        go_wp2
        go_ret
        exact ⟨rfl, bb⟩
    · obtain ⟨u0, t0, rfl, s0, r0⟩ := h0
      obtain ⟨A0, c0, rfl, _⟩ := id s0
      obtain ⟨D0, e0, rfl, _⟩ := id r0
      obtain ⟨u1, t1, rfl, s1, r1⟩ := h1
      obtain ⟨A1, c1, rfl, _⟩ := id s1
      obtain ⟨D1, e1, rfl, _⟩ := id r1
      have HE : Hid ((ngB x.num == ngB y.num) = true) := by show _ = _; rw [hs]; exact beq_self_eq_true _
      obtain rfl : b = false := by rw [hb, decide_eq_false_iff_not]; exact fun e => hn (by rw [e])
      clear hb hs
      have HN : Hid (false = decide (x.num.natAbs = y.num.natAbs)) := (decide_eq_false hn).symm
      clear hn
      go_enter Tryz.func38, Tryz.ntmps38
      go_upto_region 1 with (fail)
      obtain ⟨wx, hwx, bb, B0, B1, hsz⟩ := vars2 w 28 28 #[.bool (ngB (x).num), .slice A0 (digs 4294967296 (x).num.natAbs).length c0, .slice D0 (digs 4294967296 (x).den).length e0] #[.bool (ngB (y).num), .slice A1 (digs 4294967296 (y).num.natAbs).length c1, .slice D1 (digs 4294967296 (y).den).length e1]
      rw [hwx]
      clear hwx
      have k0s := s0.below bb
      have k0d := r0.below bb
      have k0z : IsZ wx (.agg #[.bool (ngB (x).num), .slice A0 (digs 4294967296 (x).num.natAbs).length c0]) (x).num := ⟨_, rfl, k0s⟩
      have k0 : IsQ wx (.agg #[.bool (ngB (x).num), .slice A0 (digs 4294967296 (x).num.natAbs).length c0, .slice D0 (digs 4294967296 (x).den).length e0]) (x) := ⟨_, _, rfl, k0s, k0d⟩
      have k1s := s1.below bb
      have k1d := r1.below bb
      have k1z : IsZ wx (.agg #[.bool (ngB (y).num), .slice A1 (digs 4294967296 (y).num.natAbs).length c1]) (y).num := ⟨_, rfl, k1s⟩
      have k1 : IsQ wx (.agg #[.bool (ngB (y).num), .slice A1 (digs 4294967296 (y).num.natAbs).length c1, .slice D1 (digs 4294967296 (y).den).length e1]) (y) := ⟨_, _, rfl, k1s, k1d⟩
      have hsz0 := bb.size
      have sB := bb.size
      refine flowp 24 [Pd.eq (.pointer (some ⟨w.heap.size, 0, none⟩)), Pd.eq (.pointer (some ⟨w.heap.size, 0, none⟩)), Pd.eq (.bool (ngB (x).num)), Pd.eq (.pointer (some ⟨w.heap.size + 1, 0, none⟩)), Pd.eq (.pointer (some ⟨w.heap.size + 1, 0, none⟩)), Pd.eq (.bool (ngB (y).num)), Pd.eq (.bool true), Pd.eq (.bool true), Pd.eq (.pointer (some ⟨w.heap.size, 0, none⟩)), Pd.eq (.pointer (some ⟨w.heap.size, 1, none⟩)), Pd.eq (.slice A0 (digs 4294967296 (x).num.natAbs).length c0), Pd.eq (.pointer (some ⟨w.heap.size + 1, 0, none⟩)), Pd.eq (.pointer (some ⟨w.heap.size + 1, 1, none⟩)), Pd.eq (.slice A1 (digs 4294967296 (y).num.natAbs).length c1), Pd.eq (.bool false), Pd.eq (.bool false), Pd.eq (.bool false), Pd.any, Pd.any, Pd.any, Pd.any, Pd.any, Pd.eq (.bool false), Pd.eq (.bool false)] (by kernel_rfl) ?ob45 ?done45
      case ob45 =>
        refine And.intro (ob_fieldAddr rfl (wt_none rfl) (ev_far rfl rfl) (fun _ => by kernel_rfl) (fun _ => rfl)) ?_
        refine And.intro (ob_fieldAddr rfl (wt_none rfl) (ev_dep (j := 0) (by kernel_rfl) rfl rfl) (fun _ => by kernel_rfl) (fun _ => rfl)) ?_
        refine And.intro (ob_load rfl (wt_none rfl) (ev_dep (j := 1) (by kernel_rfl) rfl rfl) (fun w2 hb => run_load1 Tryz.underlying4 rfl ((B0.below hb).cell 0)) (fun _ _ => rfl)) ?_
        refine And.intro (ob_fieldAddr rfl (wt_none rfl) (ev_far rfl rfl) (fun _ => by kernel_rfl) (fun _ => rfl)) ?_
        refine And.intro (ob_fieldAddr rfl (wt_none rfl) (ev_dep (j := 3) (by kernel_rfl) rfl rfl) (fun _ => by kernel_rfl) (fun _ => rfl)) ?_
        refine And.intro (ob_load rfl (wt_none rfl) (ev_dep (j := 4) (by kernel_rfl) rfl rfl) (fun w2 hb => run_load1 Tryz.underlying4 rfl ((B1.below hb).cell 0)) (fun _ _ => rfl)) ?_
        refine And.intro (ob_bin rfl (wt_none rfl) (ev_dep (j := 2) (by kernel_rfl) rfl rfl) (ev_dep (j := 5) (by kernel_rfl) rfl rfl) (fun _ _ _ hx hy => ⟨.bool true, by rw [hx, hy]; exact (bin_eql_bool _ _ _ _ Tryz.underlying4 _).trans (by rw [HE.out]), rfl⟩)) ?_
        refine And.intro (ob_move rfl (wt_none rfl) (ev_dep (j := 6) (by kernel_rfl) rfl rfl) (fun _ _ h => h)) ?_
        refine And.intro (ob_fieldAddr rfl (wt_dep (c := true) (b := true) (g := 7) rfl (by kernel_rfl) rfl rfl rfl (by exact fun _ _ h => h)) (ev_far rfl rfl) (fun _ => by kernel_rfl) (fun _ => rfl)) ?_
        refine And.intro (ob_fieldAddr rfl (wt_dep (c := true) (b := true) (g := 7) rfl (by kernel_rfl) rfl rfl rfl (by exact fun _ _ h => h)) (ev_dep (j := 8) (by kernel_rfl) rfl rfl) (fun _ => by kernel_rfl) (fun _ => rfl)) ?_
        refine And.intro (ob_load rfl (wt_dep (c := true) (b := true) (g := 7) rfl (by kernel_rfl) rfl rfl rfl (by exact fun _ _ h => h)) (ev_dep (j := 9) (by kernel_rfl) rfl rfl) (fun w2 hb => run_load1 Tryz.underlying24 rfl ((B0.below hb).cell 1)) (fun _ _ => rfl)) ?_
        refine And.intro (ob_fieldAddr rfl (wt_dep (c := true) (b := true) (g := 7) rfl (by kernel_rfl) rfl rfl rfl (by exact fun _ _ h => h)) (ev_far rfl rfl) (fun _ => by kernel_rfl) (fun _ => rfl)) ?_
        refine And.intro (ob_fieldAddr rfl (wt_dep (c := true) (b := true) (g := 7) rfl (by kernel_rfl) rfl rfl rfl (by exact fun _ _ h => h)) (ev_dep (j := 11) (by kernel_rfl) rfl rfl) (fun _ => by kernel_rfl) (fun _ => rfl)) ?_
        refine And.intro (ob_load rfl (wt_dep (c := true) (b := true) (g := 7) rfl (by kernel_rfl) rfl rfl rfl (by exact fun _ _ h => h)) (ev_dep (j := 12) (by kernel_rfl) rfl rfl) (fun w2 hb => run_load1 Tryz.underlying24 rfl ((B1.below hb).cell 1)) (fun _ _ => rfl)) ?_
        refine And.intro (ob_call2 rfl Tryz.func68 (by kernel_rfl) (wt_dep (c := true) (b := true) (g := 7) rfl (by kernel_rfl) rfl rfl rfl (by exact fun _ _ h => h)) (ev_dep (j := 10) (by kernel_rfl) rfl rfl) (ev_dep (j := 13) (by kernel_rfl) rfl rfl) (fun w2 u0 u1 hb h0 h1 => by obtain rfl := h0; obtain rfl := h1; exact (limbs_num _ _ (x).num.natAbs (y).num.natAbs false _ (k0s.below hb) (k1s.below hb) HN.out).mono fun e w3 h => RetV.pd h)) ?_
        refine And.intro (ob_pick (b := true) rfl (wt_none rfl) (ev_dep (j := 7) (by kernel_rfl) rfl rfl) (ev_dep (j := 14) (by kernel_rfl) rfl rfl) (fun _ _ h => h)) ?_
        refine And.intro (ob_move rfl (wt_none rfl) (ev_dep (j := 15) (by kernel_rfl) rfl rfl) (fun _ _ h => h)) ?_
        refine And.intro (ob_not (wt_dep (c := false) (b := true) (g := 16) rfl (by kernel_rfl) rfl rfl rfl (by exact fun _ _ h => h)) (fun _ => trivial) rfl) ?_
        refine And.intro (ob_not (wt_dep (c := false) (b := true) (g := 16) rfl (by kernel_rfl) rfl rfl rfl (by exact fun _ _ h => h)) (fun _ => trivial) rfl) ?_
        refine And.intro (ob_not (wt_dep (c := false) (b := true) (g := 16) rfl (by kernel_rfl) rfl rfl rfl (by exact fun _ _ h => h)) (fun _ => trivial) rfl) ?_
        refine And.intro (ob_not (wt_dep (c := false) (b := true) (g := 16) rfl (by kernel_rfl) rfl rfl rfl (by exact fun _ _ h => h)) (fun _ => trivial) rfl) ?_
        refine And.intro (ob_not (wt_dep (c := false) (b := true) (g := 16) rfl (by kernel_rfl) rfl rfl rfl (by exact fun _ _ h => h)) (fun _ => trivial) rfl) ?_
        refine And.intro (ob_pick (b := false) rfl (wt_none rfl) (ev_dep (j := 16) (by kernel_rfl) rfl rfl) (ev_const _) (fun _ _ h => h)) ?_
        refine And.intro (ob_assign rfl (wt_none rfl) (ev_dep (j := 22) (by kernel_rfl) rfl rfl) (fun _ _ h => h)) ?_
        trivial
      case done45 =>
        refine fun w1 hb1 v0 h0 v1 h1 v2 h2 v3 h3 v4 h4 v5 h5 v6 h6 v7 h7 v8 h8 v9 h9 v10 h10 v11 h11 v12 h12 v13 h13 v14 h14 v15 h15 v16 h16 v17 h17 v18 h18 v19 h19 v20 h20 v21 h21 v22 h22 v23 h23 b hbf => ?_
        obtain rfl := h0; obtain rfl := h1; obtain rfl := h2; obtain rfl := h3; obtain rfl := h4; obtain rfl := h5; obtain rfl := h6; obtain rfl := h7; obtain rfl := h8; obtain rfl := h9; obtain rfl := h10; obtain rfl := h11; obtain rfl := h12; obtain rfl := h13; obtain rfl := h14; obtain rfl := h15; obtain rfl := h16; obtain rfl := h22; obtain rfl := h23
        clear h17
        clear h18
        clear h19
        clear h20
        clear h21
        simp only [Act.put, List.setIfInBounds_toArray, List.set_cons_zero, List.set_cons_succ] at hbf
        subst hbf
        replace B0 := B0.below hb1
        replace k0s := k0s.below hb1
        replace k0d := k0d.below hb1
        replace k0z := k0z.below hb1
        replace k0 := k0.below hb1
        replace B1 := B1.below hb1
        replace k1s := k1s.below hb1
        replace k1d := k1d.below hb1
        replace k1z := k1z.below hb1
        replace k1 := k1.below hb1
        replace bb := bb.trans (hb1.mono bb.size)
        have hsz1 := bb.size
        refine ops_done ?_
        go_wp2
        go_ret
        exact ⟨rfl, bb⟩
  · obtain ⟨u0, t0, rfl, s0, r0⟩ := h0
    obtain ⟨A0, c0, rfl, _⟩ := id s0
    obtain ⟨D0, e0, rfl, _⟩ := id r0
    obtain ⟨u1, t1, rfl, s1, r1⟩ := h1
    obtain ⟨A1, c1, rfl, _⟩ := id s1
    obtain ⟨D1, e1, rfl, _⟩ := id r1
    obtain rfl : b = false := by rw [hb, decide_eq_false_iff_not]; exact fun e => hs (by rw [e])
    clear hb
    have HE : Hid ((ngB x.num == ngB y.num) = false) := by show _ = _; rw [beq_eq_false_iff_ne]; exact hs
    clear hs
    go_enter Tryz.func38, Tryz.ntmps38
    go_upto_region 1 with (fail)
    obtain ⟨wx, hwx, bb, B0, B1, hsz⟩ := vars2 w 28 28 #[.bool (ngB (x).num), .slice A0 (digs 4294967296 (x).num.natAbs).length c0, .slice D0 (digs 4294967296 (x).den).length e0] #[.bool (ngB (y).num), .slice A1 (digs 4294967296 (y).num.natAbs).length c1, .slice D1 (digs 4294967296 (y).den).length e1]
    rw [hwx]
    clear hwx
    have k0s := s0.below bb
    have k0d := r0.below bb
    have k0z : IsZ wx (.agg #[.bool (ngB (x).num), .slice A0 (digs 4294967296 (x).num.natAbs).length c0]) (x).num := ⟨_, rfl, k0s⟩
    have k0 : IsQ wx (.agg #[.bool (ngB (x).num), .slice A0 (digs 4294967296 (x).num.natAbs).length c0, .slice D0 (digs 4294967296 (x).den).length e0]) (x) := ⟨_, _, rfl, k0s, k0d⟩
    have k1s := s1.below bb
    have k1d := r1.below bb
    have k1z : IsZ wx (.agg #[.bool (ngB (y).num), .slice A1 (digs 4294967296 (y).num.natAbs).length c1]) (y).num := ⟨_, rfl, k1s⟩
    have k1 : IsQ wx (.agg #[.bool (ngB (y).num), .slice A1 (digs 4294967296 (y).num.natAbs).length c1, .slice D1 (digs 4294967296 (y).den).length e1]) (y) := ⟨_, _, rfl, k1s, k1d⟩
    have hsz0 := bb.size
    have sB := bb.size
    refine flowp 24 [Pd.eq (.pointer (some ⟨w.heap.size, 0, none⟩)), Pd.eq (.pointer (some ⟨w.heap.size, 0, none⟩)), Pd.eq (.bool (ngB (x).num)), Pd.eq (.pointer (some ⟨w.heap.size + 1, 0, none⟩)), Pd.eq (.pointer (some ⟨w.heap.size + 1, 0, none⟩)), Pd.eq (.bool (ngB (y).num)), Pd.eq (.bool false), Pd.eq (.bool false), Pd.any, Pd.any, Pd.any, Pd.any, Pd.any, Pd.any, Pd.any, Pd.eq (.bool false), Pd.eq (.bool false), Pd.any, Pd.any, Pd.any, Pd.any, Pd.any, Pd.eq (.bool false), Pd.eq (.bool false)] (by kernel_rfl) ?ob44 ?done44
    case ob44 =>
      refine And.intro (ob_fieldAddr rfl (wt_none rfl) (ev_far rfl rfl) (fun _ => by kernel_rfl) (fun _ => rfl)) ?_
      refine And.intro (ob_fieldAddr rfl (wt_none rfl) (ev_dep (j := 0) (by kernel_rfl) rfl rfl) (fun _ => by kernel_rfl) (fun _ => rfl)) ?_
      refine And.intro (ob_load rfl (wt_none rfl) (ev_dep (j := 1) (by kernel_rfl) rfl rfl) (fun w2 hb => run_load1 Tryz.underlying4 rfl ((B0.below hb).cell 0)) (fun _ _ => rfl)) ?_
      refine And.intro (ob_fieldAddr rfl (wt_none rfl) (ev_far rfl rfl) (fun _ => by kernel_rfl) (fun _ => rfl)) ?_
      refine And.intro (ob_fieldAddr rfl (wt_none rfl) (ev_dep (j := 3) (by kernel_rfl) rfl rfl) (fun _ => by kernel_rfl) (fun _ => rfl)) ?_
      refine And.intro (ob_load rfl (wt_none rfl) (ev_dep (j := 4) (by kernel_rfl) rfl rfl) (fun w2 hb => run_load1 Tryz.underlying4 rfl ((B1.below hb).cell 0)) (fun _ _ => rfl)) ?_
      refine And.intro (ob_bin rfl (wt_none rfl) (ev_dep (j := 2) (by kernel_rfl) rfl rfl) (ev_dep (j := 5) (by kernel_rfl) rfl rfl) (fun _ _ _ hx hy => ⟨.bool false, by rw [hx, hy]; exact (bin_eql_bool _ _ _ _ Tryz.underlying4 _).trans (by rw [HE.out]), rfl⟩)) ?_
      refine And.intro (ob_move rfl (wt_none rfl) (ev_dep (j := 6) (by kernel_rfl) rfl rfl) (fun _ _ h => h)) ?_
      refine And.intro (ob_not (wt_dep (c := false) (b := true) (g := 7) rfl (by kernel_rfl) rfl rfl rfl (by exact fun _ _ h => h)) (fun _ => trivial) rfl) ?_
      refine And.intro (ob_not (wt_dep (c := false) (b := true) (g := 7) rfl (by kernel_rfl) rfl rfl rfl (by exact fun _ _ h => h)) (fun _ => trivial) rfl) ?_
      refine And.intro (ob_not (wt_dep (c := false) (b := true) (g := 7) rfl (by kernel_rfl) rfl rfl rfl (by exact fun _ _ h => h)) (fun _ => trivial) rfl) ?_
      refine And.intro (ob_not (wt_dep (c := false) (b := true) (g := 7) rfl (by kernel_rfl) rfl rfl rfl (by exact fun _ _ h => h)) (fun _ => trivial) rfl) ?_
      refine And.intro (ob_not (wt_dep (c := false) (b := true) (g := 7) rfl (by kernel_rfl) rfl rfl rfl (by exact fun _ _ h => h)) (fun _ => trivial) rfl) ?_
      refine And.intro (ob_not (wt_dep (c := false) (b := true) (g := 7) rfl (by kernel_rfl) rfl rfl rfl (by exact fun _ _ h => h)) (fun _ => trivial) rfl) ?_
      refine And.intro (ob_not (wt_dep (c := false) (b := true) (g := 7) rfl (by kernel_rfl) rfl rfl rfl (by exact fun _ _ h => h)) (fun _ => trivial) rfl) ?_
      refine And.intro (ob_pick (b := false) rfl (wt_none rfl) (ev_dep (j := 7) (by kernel_rfl) rfl rfl) (ev_const _) (fun _ _ h => h)) ?_
      refine And.intro (ob_move rfl (wt_none rfl) (ev_dep (j := 15) (by kernel_rfl) rfl rfl) (fun _ _ h => h)) ?_
      refine And.intro (ob_not (wt_dep (c := false) (b := true) (g := 16) rfl (by kernel_rfl) rfl rfl rfl (by exact fun _ _ h => h)) (fun _ => trivial) rfl) ?_
      refine And.intro (ob_not (wt_dep (c := false) (b := true) (g := 16) rfl (by kernel_rfl) rfl rfl rfl (by exact fun _ _ h => h)) (fun _ => trivial) rfl) ?_
      refine And.intro (ob_not (wt_dep (c := false) (b := true) (g := 16) rfl (by kernel_rfl) rfl rfl rfl (by exact fun _ _ h => h)) (fun _ => trivial) rfl) ?_
      refine And.intro (ob_not (wt_dep (c := false) (b := true) (g := 16) rfl (by kernel_rfl) rfl rfl rfl (by exact fun _ _ h => h)) (fun _ => trivial) rfl) ?_
      refine And.intro (ob_not (wt_dep (c := false) (b := true) (g := 16) rfl (by kernel_rfl) rfl rfl rfl (by exact fun _ _ h => h)) (fun _ => trivial) rfl) ?_
      refine And.intro (ob_pick (b := false) rfl (wt_none rfl) (ev_dep (j := 16) (by kernel_rfl) rfl rfl) (ev_const _) (fun _ _ h => h)) ?_
      refine And.intro (ob_assign rfl (wt_none rfl) (ev_dep (j := 22) (by kernel_rfl) rfl rfl) (fun _ _ h => h)) ?_
      trivial
    case done44 =>
      refine fun w1 hb1 v0 h0 v1 h1 v2 h2 v3 h3 v4 h4 v5 h5 v6 h6 v7 h7 v8 h8 v9 h9 v10 h10 v11 h11 v12 h12 v13 h13 v14 h14 v15 h15 v16 h16 v17 h17 v18 h18 v19 h19 v20 h20 v21 h21 v22 h22 v23 h23 b hbf => ?_
      obtain rfl := h0; obtain rfl := h1; obtain rfl := h2; obtain rfl := h3; obtain rfl := h4; obtain rfl := h5; obtain rfl := h6; obtain rfl := h7; obtain rfl := h15; obtain rfl := h16; obtain rfl := h22; obtain rfl := h23
      clear h8
      clear h9
      clear h10
      clear h11
      clear h12
      clear h13
      clear h14
      clear h17
      clear h18
      clear h19
      clear h20
      clear h21
      simp only [Act.put, List.setIfInBounds_toArray, List.set_cons_zero, List.set_cons_succ] at hbf
      subst hbf
      replace B0 := B0.below hb1
      replace k0s := k0s.below hb1
      replace k0d := k0d.below hb1
      replace k0z := k0z.below hb1
      replace k0 := k0.below hb1
      replace B1 := B1.below hb1
      replace k1s := k1s.below hb1
      replace k1d := k1d.below hb1
      replace k1z := k1z.below hb1
      replace k1 := k1.below hb1
      replace bb := bb.trans (hb1.mono bb.size)
      have hsz1 := bb.size
      refine ops_done ?_
      go_wp2
      go_ret
      exact ⟨rfl, bb⟩
end Go.Proofs.YtodpjmbclmlieaaGreat.rat
namespace Go.Proofs.YtodpjmbclmlieaaGreat.flow
open Go.RowKit Go.Proofs.YtodpjmbclmlieaaGreat.num Go.Proofs.YtodpjmbclmlieaaGreat.mem
set_option linter.unusedVariables false
/-- What the chain owes: in each such state it yields a value as told, in every world that holds what was there. -/
def LatesH (P : Program) (ops : Array Oper) (L : List Oper) (Φ : List Pd) (wB w0 : World) (a0 : Act) : List Nat → Prop
  | [] => True
  | q :: qs => (∃ oq, L[q]? = some oq ∧ ∀ ms w1, St L Φ w0 oq ms w1 → ∃ v, YieldsIf P ops (fun w2 => Below wB.heap.size wB w2) oq v (putM a0 L ms) ∧ (ph Φ q).p w1 v) ∧ LatesH P ops L Φ wB w0 a0 qs
theorem LatesH.at_ {P : Program} {ops : Array Oper} {L : List Oper} {Φ : List Pd} {wB w0 : World} {a0 : Act} : ∀ (pre : List Nat) (q : Nat) (rest : List Nat), LatesH P ops L Φ wB w0 a0 (pre ++ q :: rest) → ∃ oq, L[q]? = some oq ∧ ∀ ms w1, St L Φ w0 oq ms w1 → ∃ v, YieldsIf P ops (fun w2 => Below wB.heap.size wB w2) oq v (putM a0 L ms) ∧ (ph Φ q).p w1 v
  | [], q, rest, h => h.1
  | a :: pre, q, rest, h => LatesH.at_ pre q rest h.2
section
variable {P : Program} {ops : Array Oper} {L : List Oper} {Φ : List Pd} {wB w0 : World} {a0 : Act} {o : Oper} {G : Pd} {Q : Exit → Act → World → Prop}
variable {S : World → Prop}
end
end Go.Proofs.YtodpjmbclmlieaaGreat.flow
namespace Go.Proofs.YtodpjmbclmlieaaGreat.rat
open Go.RowKit Go.Proofs.YtodpjmbclmlieaaGreat.num Go.Proofs.YtodpjmbclmlieaaGreat.mem Go.Proofs.YtodpjmbclmlieaaGreat.nat Go.Proofs.YtodpjmbclmlieaaGreat.txt Go.Proofs.YtodpjmbclmlieaaGreat.str Go.Proofs.YtodpjmbclmlieaaGreat.flow Go.Proofs.YtodpjmbclmlieaaGreat.whl
set_option linter.unusedVariables false
theorem cells3_len (p : Elt) : (cells3 p).length = 3 := rfl
theorem flat3_len (ps : List Elt) : (flat3 ps).length = ps.length * 3 := by
  induction ps with
  | nil => rfl
  | cons p ps ih => show (cells3 p ++ flat3 ps).length = _; rw [List.length_append, ih, cells3_len, List.length_cons]; omega
theorem flat3_cons (p : Elt) (ps : List Elt) : flat3 (p :: ps) = cells3 p ++ flat3 ps := rfl
theorem flat3_set : ∀ (ps : List Elt) (i : Nat) (p : Elt), i < ps.length → (flat3 ps).take (i * 3) ++ cells3 p ++ (flat3 ps).drop (i * 3 + 3) = flat3 (ps.set i p)
  | [], i, p, h => by simp at h
  | q :: ps, 0, p, h => by
    rw [List.set_cons_zero, flat3_cons, flat3_cons]
    simp [cells3]
  | q :: ps, i + 1, p, h => by
    have ih := flat3_set ps i p (by simpa using h)
    rw [List.set_cons_succ, flat3_cons, flat3_cons, ← ih, show (i + 1) * 3 = i * 3 + 1 + 1 + 1 from by omega, show i * 3 + 1 + 1 + 1 + 3 = i * 3 + 3 + 1 + 1 + 1 from by omega]
    simp [cells3]
/-- The block holds so many elements; the first ones read as these fractions. -/
def RowN (w : World) (g n : Nat) (qs : List Rat) : Prop := ∃ ps : List Elt, ps.length = n ∧ qs.length ≤ n ∧ Blk w g 28 (flat3 ps).toArray ∧ (∀ p ∈ ps, (∃ A m c, p.2.1 = .slice A m c) ∧ ∃ A m c, p.2.2 = .slice A m c) ∧ ∀ (i : Nat) (q : Rat), qs[i]? = some q → ∃ p, ps[i]? = some p ∧ p.1 = q ∧ IsE .u64 4294967296 w p
theorem RowN.below {w w' : World} {g n : Nat} {qs : List Rat} (h : RowN w g n qs) (hb : Below w.heap.size w w') : RowN w' g n qs := by
  obtain ⟨ps, h1, h2, h3, h4, h5⟩ := h
  refine ⟨ps, h1, h2, h3.below hb, h4, fun i q hq => ?_⟩
  obtain ⟨p, k1, k2, k3⟩ := h5 i q hq
  exact ⟨p, k1, k2, k3.below hb⟩
theorem RowN.drew {w : World} {g n : Nat} {qs : List Rat} (h : RowN w g n qs) : RowN w.drew g n qs := h
theorem RowN.lt {w : World} {g n : Nat} {qs : List Rat} (h : RowN w g n qs) : g < w.heap.size := by
  obtain ⟨ps, _, _, h3, _⟩ := h
  exact h3.lt
theorem RowN.le {w : World} {g n : Nat} {qs : List Rat} (h : RowN w g n qs) : qs.length ≤ n := by
  obtain ⟨ps, _, h2, _⟩ := h
  exact h2
/-- Another variable, without ints, is set. -/
theorem RowN.offb {w w' : World} {g g2 n : Nat} {qs : List Rat} {e : TypeId} {cs : Array Value} (h : RowN w g n qs) (hB : w.heap[g2]? = some (.cells cs e (0, 0))) (hno : ∀ c ∈ cs, ∀ n, c ≠ .int .u64 n) (hg : w.grownBy w' (some g2)) (hne : g ≠ g2) : RowN w' g n qs := by
  obtain ⟨ps, h1, h2, h3, h4, h5⟩ := h
  refine ⟨ps, h1, h2, h3.grown hg hne, h4, fun i q hq => ?_⟩
  obtain ⟨p, k1, k2, k3⟩ := h5 i q hq
  exact ⟨p, k1, k2, Go.Proofs.YtodpjmbclmlieaaGreat.flow.off k3.1 hB hno hg, Go.Proofs.YtodpjmbclmlieaaGreat.flow.off k3.2 hB hno hg⟩
theorem flat3_mem {ps : List Elt} {c : Value} (h : c ∈ flat3 ps) : ∃ p ∈ ps, c ∈ cells3 p := List.mem_flatMap.1 h
theorem no_ints_flat {k : IntKind} {ps : List Elt} (h4 : ∀ p ∈ ps, (∃ A m c, p.2.1 = .slice A m c) ∧ ∃ A m c, p.2.2 = .slice A m c) : ∀ c ∈ (flat3 ps).toArray, ∀ n, c ≠ .int k n := by
  intro c hc n
  obtain ⟨p, hp, hc⟩ := flat3_mem (List.mem_toArray.1 hc)
  obtain ⟨⟨A, m, d, e1⟩, ⟨A', m', d', e2⟩⟩ := h4 p hp
  simp only [cells3, e1, e2, List.mem_cons, List.not_mem_nil, or_false] at hc
  rcases hc with rfl | rfl | rfl <;> simp
/-- A list of limbs is kept where the row is written. -/
theorem RowN.keep {w w' : World} {g n : Nat} {qs : List Rat} {k : IntKind} {v : Value} {l : List Nat} (h : RowN w g n qs) (hg : w.grownBy w' (some g)) (hs : IsS w k v l) : IsS w' k v l := by
  obtain ⟨ps, _, _, h3, h4, _⟩ := h
  exact Go.Proofs.YtodpjmbclmlieaaGreat.flow.off hs h3 (no_ints_flat h4) hg
/-- One of them. -/
theorem RowN.at_ {w : World} {g n i : Nat} {qs : List Rat} {q : Rat} (h : RowN w g n qs) (hq : qs[i]? = some q) : ∃ u t, i < n ∧ w.cell? ⟨g, 0 + i * 3, none⟩ = some (.bool (ngB q.num)) ∧ w.cell? ⟨g, 0 + i * 3 + 1, none⟩ = some u ∧ w.cell? ⟨g, 0 + i * 3 + 2, none⟩ = some t ∧ IsS w .u64 u (digs 4294967296 q.num.natAbs) ∧ IsS w .u64 t (digs 4294967296 q.den) := by
  obtain ⟨ps, h1, h2, h3, h4, h5⟩ := h
  obtain ⟨p, k1, rfl, k3⟩ := h5 i q hq
  obtain ⟨f0, f1, f2⟩ := flat3_at ps i p k1
  have hi := (List.getElem?_eq_some_iff.1 k1).1
  rw [Nat.zero_add]
  refine ⟨p.2.1, p.2.2, by omega, ?_, ?_, ?_, k3.1, k3.2⟩
  · rw [h3.cell, List.getElem?_toArray]; exact f0
  · rw [h3.cell, List.getElem?_toArray]; exact f1
  · rw [h3.cell, List.getElem?_toArray]; exact f2
/-- A full row is a slice of these fractions. -/
theorem RowN.sl {w : World} {g n : Nat} {qs : List Rat} (h : RowN w g n qs) (hn : qs.length = n) (hm : n ≤ 1000000000) : SlF .u64 4294967296 w (.slice (some ⟨g, 0, none⟩) n n) qs := by
  obtain ⟨ps, h1, h2, h3, h4, h5⟩ := h
  have key : ∀ (i : Nat) (p : Elt), ps[i]? = some p → qs[i]? = some p.1 ∧ IsE .u64 4294967296 w p := by
    intro i p hp
    have hi := (List.getElem?_eq_some_iff.1 hp).1
    have hq : qs[i]? = some (qs[i]'(by omega)) := List.getElem?_eq_getElem (by omega)
    obtain ⟨p', k1, k2, k3⟩ := h5 i _ hq
    rw [hp] at k1
    injection k1 with k1
    subst k1
    exact ⟨by rw [hq, k2], k3⟩
  refine ⟨ps, ?_, ⟨some ⟨g, 0, none⟩, n, by rw [h1], by omega, by unfold maxLen; omega, fun i p hp => ⟨g, 0, rfl, ?_⟩⟩, fun p hp => ?_⟩
  · refine List.ext_getElem? fun i => ?_
    rw [List.getElem?_map]
    cases hp : ps[i]? with
    | none =>
      have : ps.length ≤ i := List.getElem?_eq_none_iff.1 hp
      rw [List.getElem?_eq_none (by omega)]; rfl
    | some p => rw [(key i p hp).1]; rfl
  · obtain ⟨f0, f1, f2⟩ := flat3_at ps i p hp
    rw [Nat.zero_add]
    refine ⟨?_, ?_, ?_⟩
    · rw [h3.cell, List.getElem?_toArray]; exact f0
    · rw [h3.cell, List.getElem?_toArray]; exact f1
    · rw [h3.cell, List.getElem?_toArray]; exact f2
  · obtain ⟨i, hi⟩ := List.mem_iff_getElem?.1 hp
    exact (key i p hi).2
/-- A row that 'make' made. -/
theorem rowN_made {w : World} {g n : Nat} (h : Blk w g 28 (flat3 (List.replicate n ((0, .slice none 0 0, .slice none 0 0) : Elt))).toArray) : RowN w g n [] :=
  ⟨_, List.length_replicate, Nat.zero_le _, h, fun p hp => by obtain rfl := (List.mem_replicate.1 hp).2; exact ⟨⟨_, _, _, rfl⟩, ⟨_, _, _, rfl⟩⟩, fun i q hq => by simp at hq⟩
theorem made3 (n : Nat) : (madeCells #[.bool false, .slice none 0 0, .slice none 0 0] (n * 3)).toList = flat3 (List.replicate n ((0, .slice none 0 0, .slice none 0 0) : Elt)) := by
  have key : ∀ n j : Nat, (flat3 (List.replicate n ((0, .slice none 0 0, .slice none 0 0) : Elt)))[j]? = if j < n * 3 then some ((#[.bool false, .slice none 0 0, .slice none 0 0] : Array Value)[j % 3]?.getD undef) else none := by
    intro n
    induction n with
    | zero => intro j; simp [flat3]
    | succ n ih =>
      intro j
      rw [List.replicate_succ, flat3_cons]
      match j with
      | 0 => simp [cells3, ngB]
      | 1 => simp [cells3]; omega
      | 2 => simp [cells3]; omega
      | j + 3 =>
        have e : (cells3 ((0, .slice none 0 0, .slice none 0 0) : Elt) ++ flat3 (List.replicate n ((0, .slice none 0 0, .slice none 0 0) : Elt)))[j + 3]? = (flat3 (List.replicate n ((0, .slice none 0 0, .slice none 0 0) : Elt)))[j]? := by simp [cells3]
        rw [e, ih j]
        have h1 : (j + 3) % 3 = j % 3 := by omega
        rw [h1]
        by_cases h : j < n * 3
        · rw [if_pos h, if_pos (by omega)]
        · rw [if_neg h, if_neg (by omega)]
  apply List.ext_getElem?
  intro j
  rw [key n j]
  have h3 : j % 3 < 3 := Nat.mod_lt _ (by omega)
  by_cases h : j < n * 3
  · rw [if_pos h]
    rcases (by omega : j % 3 = 0 ∨ j % 3 = 1 ∨ j % 3 = 2) with e | e | e <;> simp [madeCells, h, e]
  · rw [if_neg h]
    simp [madeCells, h]
section
variable {P : Program}
theorem run_make_q {w : World} {t : TypeId} (ht : P.underlying t = some (.slice 28)) (hI : ∃ i, P.info? 28 = some i ∧ i.zero = some (.agg #[.bool false, .slice none 0 0, .slice none 0 0]) ∧ i.size = 3 ∧ i.bytes = 56) (n : Nat) (hn : n ≤ 1000000000) :
    ∃ w', (Instr.makeSlice t (.int .i64 (n : Int)) (.int .i64 (n : Int))).run P w = .ok (.slice (some ⟨w.heap.size, 0, none⟩) n n) w' ∧ RowN w' w.heap.size n [] ∧ Below w.heap.size w w' := by
  obtain ⟨i, hi, hz, hs, hb⟩ := hI
  obtain ⟨w', h1, h2, h3⟩ := run_make_full (P := P) w w.heap.size t 28 i _ 3 ht hi hz hs .i64 .i64 n (by rw [hb]; omega) (by unfold maxLen; omega) (Nat.le_refl _)
  refine ⟨w', h1, rowN_made ?_, (Below.refl _ w).grown h3 (Nat.le_refl _) (fun g hg => by cases hg)⟩
  obtain ⟨hl, h2⟩ := h2
  rcases h2 with ⟨h4, _⟩ | ⟨g, cap, cur, h4, _, h5, _, _, h6, h7⟩
  · cases h4
  · injection h4 with h4 _ h8
    injection h4 with h4
    injection h4 with h4 _ _
    subst h4; subst h8
    rw [List.take_of_length_le (by simp [h6])] at h7
    have e : cur = (flat3 (List.replicate n ((0, .slice none 0 0, .slice none 0 0) : Elt))).toArray := by
      rw [← made3]
      rw [show (Value.agg #[.bool false, .slice none 0 0, .slice none 0 0]).cells = #[.bool false, .slice none 0 0, .slice none 0 0] from rfl] at h7
      rw [← h7]
    rw [← e]
    exact h5
theorem wpList_make_q {w : World} {ops : Array Oper} {rest : List Oper} {o : Oper} {a : Act} {Q : Exit → Act → World → Prop} (hgd : o.guard = none) (lo co : Operand) {t : TypeId} (ho : o.op = Op.makeSlice t lo co)
    (ht : P.underlying t = some (.slice 28)) (hI : ∃ i, P.info? 28 = some i ∧ i.zero = some (.agg #[.bool false, .slice none 0 0, .slice none 0 0]) ∧ i.size = 3 ∧ i.bytes = 56) (n : Nat) (hl : a.eval lo = .int .i64 (n : Int)) (hc : a.eval co = .int .i64 (n : Int)) (hn : n ≤ 1000000000)
    (h : ∀ w', RowN w' w.heap.size n [] → Below w.heap.size w w' → wpList P ops Q rest (a.put o.dst (.slice (some ⟨w.heap.size, 0, none⟩) n n)) w') : wpList P ops Q (o :: rest) a w := by
  obtain ⟨w', h1, h2, h3⟩ := run_make_q (P := P) (w := w) ht hI n hn
  refine wpList_plain hgd fun K hK => ?_
  unfold Oper.wp execOp
  simp only [ho, hl, hc, Sem.run_bind, h1, Result.andThen_ok]
  exact hK _ _ (h w' h2 h3)
/-- The row is written at one place. -/
theorem RowN.put {w w' : World} {g n i : Nat} {qs : List Rat} {q : Rat} {u t : Value} (h : RowN w g n qs) (hi : i < n) (hu : IsS w .u64 u (digs 4294967296 q.num.natAbs)) (ht : IsS w .u64 t (digs 4294967296 q.den)) (hg : w.grownBy w' (some g)) (hc : ∀ cs, Blk w g 28 cs → Blk w' g 28 (cs.toList.take (0 + i * 3) ++ [.bool (ngB q.num), u, t] ++ cs.toList.drop (0 + i * 3 + 3)).toArray) : (i = qs.length → RowN w' g n (qs ++ [q])) ∧ (i < qs.length → RowN w' g n (qs.set i q)) := by
  have keep := fun {k v l} => h.keep (k := k) (v := v) (l := l) hg
  obtain ⟨ps, h1, h2, h3, h4, h5⟩ := h
  have hB : Blk w' g 28 (flat3 (ps.set i (q, u, t))).toArray := by
    have h6 := hc _ h3
    rw [Nat.zero_add, List.toList_toArray] at h6
    rw [← flat3_set ps i (q, u, t) (by omega)]
    exact h6
  have hS : ∀ p ∈ ps.set i (q, u, t), (∃ A m c, p.2.1 = .slice A m c) ∧ ∃ A m c, p.2.2 = .slice A m c := by
    intro p hp
    rcases List.mem_or_eq_of_mem_set hp with hp | rfl
    · exact h4 p hp
    · obtain ⟨A, c, e1, _⟩ := hu
      obtain ⟨D, d, e2, _⟩ := ht
      exact ⟨⟨_, _, _, e1⟩, ⟨_, _, _, e2⟩⟩
  have hE : IsE .u64 4294967296 w' ((q, u, t) : Elt) := ⟨keep hu, keep ht⟩
  have old : ∀ (j : Nat) (x : Rat), j ≠ i → qs[j]? = some x → ∃ p, (ps.set i (q, u, t))[j]? = some p ∧ p.1 = x ∧ IsE .u64 4294967296 w' p := by
    intro j x hj hx
    obtain ⟨p, k1, k2, k3⟩ := h5 j x hx
    exact ⟨p, by rw [List.getElem?_set_ne (fun e => hj e.symm)]; exact k1, k2, keep k3.1, keep k3.2⟩
  have new : (ps.set i (q, u, t))[i]? = some ((q, u, t) : Elt) := by rw [List.getElem?_set_self (by omega)]
  constructor
  · intro hiq
    refine ⟨ps.set i (q, u, t), by rw [List.length_set]; exact h1, by simp; omega, hB, hS, fun j x hx => ?_⟩
    by_cases hj : j = i
    · subst hj
      rw [hiq, List.getElem?_concat_length] at hx
      injection hx with hx
      subst hx
      exact ⟨_, new, rfl, hE⟩
    · refine old j x hj ?_
      have hl := (List.getElem?_eq_some_iff.1 hx).1
      rw [List.length_append, List.length_singleton] at hl
      rwa [List.getElem?_append_left (by omega)] at hx
  · intro hiq
    refine ⟨ps.set i (q, u, t), by rw [List.length_set]; exact h1, by simp; omega, hB, hS, fun j x hx => ?_⟩
    by_cases hj : j = i
    · subst hj
      rw [List.getElem?_set_self hiq] at hx
      injection hx with hx
      subst hx
      exact ⟨_, new, rfl, hE⟩
    · rw [List.getElem?_set_ne (fun e => hj e.symm)] at hx
      exact old j x hj hx
theorem grownBy_setRow (w : World) (g : Nat) (cs : Array Value) : w.grownBy (w.setRow g cs) (some g) := ⟨rfl, rfl, rfl, by simp [World.setRow], fun k _ hk => setRow_other w g k cs (fun e => hk (by rw [e]))⟩
theorem wp_store_q {o : Oper} {a : Act} {w : World} {K : Act → World → Prop} {Q : Exit → Act → World → Prop} {ty : TypeId} {x y : Operand} {g n i : Nat} {qs : List Rat} {q : Rat} {u t : Value} (hd : o.dst = none) (hop : o.op = .store ty x y) (hx : a.eval x = .pointer (some ⟨g, 0 + i * 3, none⟩)) (hy : a.eval y = .agg #[.bool (ngB q.num), u, t])
    (hI : (P.info? ty).map (·.size) = some 3) (hR : RowN w g n qs) (hi : i < n) (hu : IsS w .u64 u (digs 4294967296 q.num.natAbs)) (ht : IsS w .u64 t (digs 4294967296 q.den))
    (h : ∀ w', w.grownBy w' (some g) → (i = qs.length → RowN w' g n (qs ++ [q])) ∧ (i < qs.length → RowN w' g n (qs.set i q)) → K a w') : o.wp P a w K Q := by
  obtain ⟨ps, h1, h2, h3, h4, h5⟩ := id hR
  have one : ∀ v ∈ [Value.bool (ngB q.num), u, t], v.oneCell' = true := by
    obtain ⟨A, c, rfl, _⟩ := id hu
    obtain ⟨D, d, rfl, _⟩ := id ht
    exact one3 rfl rfl rfl
  have hrun := run_storeCells_at (P := P) g (0 + i * 3) 28 [Value.bool (ngB q.num), u, t] 0 (flat3 ps).toArray w h3 (by simp [flat3_len]; omega) one
  rw [Nat.add_zero] at hrun
  have key : ∀ (A : Addr) (W : World), (storeCells A [Value.bool (ngB q.num), u, t] 0).run P w = .ok () W → (storeVar ty A (.agg #[.bool (ngB q.num), u, t])).run P w = .ok () W := by
    intro A W hrun
    cases hq : P.info? ty with
    | none => simp [hq] at hI
    | some inf =>
      have hsz : 3 = inf.size := by simp [hq] at hI; omega
      have e : (Value.agg #[.bool (ngB q.num), u, t]).cells = ([Value.bool (ngB q.num), u, t] : List Value).toArray := rfl
      simp [storeVar, sizeOf, typeInfo, hq, e, ← hsz, hrun]
  have hst := key _ _ hrun
  unfold Oper.wp execOp
  simp only [hop, hx, hy, Instr.storeAt, Instr.sureAddr, Sem.run_bind, Sem.run_pure, Result.andThen_ok, hst, Oper.upon_skip, hd]
  refine h _ (grownBy_setRow _ _ _) (hR.put hi hu ht (grownBy_setRow _ _ _) fun cs hcs => ?_)
  unfold Blk at hcs h3 ⊢
  rw [h3] at hcs
  injection hcs with hcs
  injection hcs with hcs
  subst hcs
  exact setRow_heap w g _ _ _ _ h3
theorem ops_store_q {Q : Exit → Act → World → Prop} {ops : Array Oper} {o : Oper} {j : Nat} {rest : List Nat} {a : Act} {w : World} {ty : TypeId} {x y : Operand} {g n i : Nat} {qs : List Rat} {q : Rat} {u t : Value} (ho : ops[j]? = some o) (hgd : o.guard = none) (hd : o.dst = none) (hop : o.op = .store ty x y) (hx : a.eval x = .pointer (some ⟨g, 0 + i * 3, none⟩)) (hy : a.eval y = .agg #[.bool (ngB q.num), u, t])
    (hI : (P.info? ty).map (·.size) = some 3) (hR : RowN w g n qs) (hi : i < n) (hu : IsS w .u64 u (digs 4294967296 q.num.natAbs)) (ht : IsS w .u64 t (digs 4294967296 q.den))
    (h : ∀ w', w.grownBy w' (some g) → (i = qs.length → RowN w' g n (qs ++ [q])) ∧ (i < qs.length → RowN w' g n (qs.set i q)) → wpOps P ops Q rest a w') : wpOps P ops Q (j :: rest) a w :=
  ops_one ho hgd (wp_store_q hd hop hx hy hI hR hi hu ht h)
theorem any_store_q {Q : Exit → Act → World → Prop} {ops : Array Oper} {o : Oper} {fuel j : Nat} {listed : Array Bool} {a : Act} {w : World} {ty : TypeId} {x y : Operand} {g n i : Nat} {qs : List Rat} {q : Rat} {u t : Value} (hr : Region.ready .any ops listed = [j]) (ho : ops[j]? = some o) (hgd : o.guard = none) (hd : o.dst = none) (hop : o.op = .store ty x y) (hx : a.eval x = .pointer (some ⟨g, 0 + i * 3, none⟩)) (hy : a.eval y = .agg #[.bool (ngB q.num), u, t])
    (hI : (P.info? ty).map (·.size) = some 3) (hR : RowN w g n qs) (hi : i < n) (hu : IsS w .u64 u (digs 4294967296 q.num.natAbs)) (ht : IsS w .u64 t (digs 4294967296 q.den))
    (h : ∀ w', w.grownBy w' (some g) → (i = qs.length → RowN w' g n (qs ++ [q])) ∧ (i < qs.length → RowN w' g n (qs.set i q)) → wpAny P .any ops Q fuel (listed.setIfInBounds j true) a w') : wpAny P .any ops Q (fuel + 1) listed a w :=
  any_one hr ho hgd (wp_store_q hd hop hx hy hI hR hi hu ht h)
end
/-! Calls through a function's value. -/
section
variable {P : Program} {Q : Exit → Act → World → Prop} {ops : Array Oper} {L : List Oper} {Φ : List Pd} {w0 : World} {a0 : Act} {i : Nat} {o : Oper}
theorem ev_func (f : FuncId) : Ev L Φ w0 a0 o (.func f) (fun _ u => u = .func (.func f) #[] #[]) := fun _ _ _ => rfl
theorem exec_callv {ρ : Operand → Value} {f : FuncId} {z : Operand} {xs : Array Operand} {at_ : Array TypeId} {w : World} (hop : o.op = .call { callee := .value z, args := xs, argTypes := at_ }) (hρ : ρ z = .func (.func f) #[] #[]) {args : Array Value} (ha : xs.map ρ = args) : (execOp ρ o).run P w = (callFunc f args).run P w := by
  subst ha
  unfold execOp
  simp [hop, resolve, hρ, Deferred.ofValue, invoke]
theorem ob_callv2 {f : FuncId} {fn : Func} {z x y : Operand} {at_ : Array TypeId} {F G : World → Value → Prop} (hop : o.op = .call { callee := .value z, args := #[x, y], argTypes := at_ }) (hz : Ev L Φ w0 a0 o z (fun _ u => u = .func (.func f) #[] #[])) (hf : P.funcs[f]? = some fn) (hB : (!(fn.name == "runtime.NumGoroutine") && fn.body.isSome) = true) (hw : Wt ops L Φ w0 a0 o true)
    (hx : Ev L Φ w0 a0 o x F) (hy : Ev L Φ w0 a0 o y G) (hc : ∀ w u v, Below w0.heap.size w0 w → F w u → G w v → Calls P f #[u, v] w (RetPd (ph Φ i) w)) : Ob P Q ops L Φ w0 a0 i o :=
  ob_enter hf hB hw (by unfold isA; rw [hop]) fun ms w hS => ⟨#[(putM a0 L ms).eval x, (putM a0 L ms).eval y], exec_callv hop (hz ms w hS) (by simp), hc w _ _ hS.below (hx ms w hS) (hy ms w hS)⟩
end
/-- A list that is written from the front, over another one. -/
theorem front_set {a b : List Rat} {k : Nat} {x : Rat} (ha : a[k]? = some x) (hl : a.length = b.length) : (a.take k ++ b.drop k).set k x = a.take (k + 1) ++ b.drop (k + 1) := by
  have hk : k < a.length := (List.getElem?_eq_some_iff.1 ha).1
  have e : (a.take k).length = k := by rw [List.length_take]; omega
  rw [List.set_append_right _ _ (by omega), e, Nat.sub_self, take_snoc ha, List.append_assoc, List.drop_eq_getElem_cons (by omega : k < b.length)]
  rfl
theorem front_at {a b : List Rat} {k : Nat} {y : Rat} (hb : b[k]? = some y) (hl : a.length = b.length) : (a.take k ++ b.drop k)[k]? = some y := by
  have hk : k < b.length := (List.getElem?_eq_some_iff.1 hb).1
  have e : (a.take k).length = k := by rw [List.length_take]; omega
  rw [List.getElem?_append_right (by omega), e, Nat.sub_self, List.getElem?_drop]
  exact hb
theorem front_len (a b : List Rat) (k : Nat) (hl : a.length = b.length) : (a.take k ++ b.drop k).length = b.length := by
  rw [List.length_append, List.length_take, List.length_drop]; omega
end Go.Proofs.YtodpjmbclmlieaaGreat.rat
namespace Go.Proofs.YtodpjmbclmlieaaGreat.flow
open Go.RowKit Go.Proofs.YtodpjmbclmlieaaGreat.num Go.Proofs.YtodpjmbclmlieaaGreat.mem Go.Proofs.YtodpjmbclmlieaaGreat.rat
set_option linter.unusedVariables false
section
variable {P : Program} {Q : Exit → Act → World → Prop} {ops : Array Oper} {L : List Oper} {Φ : List Pd} {w0 : World} {a0 : Act} {i : Nat} {o : Oper}
end
end Go.Proofs.YtodpjmbclmlieaaGreat.flow
namespace Go.Proofs.YtodpjmbclmlieaaGreat.rat
open Go.RowKit Go.Proofs.YtodpjmbclmlieaaGreat.num Go.Proofs.YtodpjmbclmlieaaGreat.mem Go.Proofs.YtodpjmbclmlieaaGreat.nat Go.Proofs.YtodpjmbclmlieaaGreat.txt Go.Proofs.YtodpjmbclmlieaaGreat.str Go.Proofs.YtodpjmbclmlieaaGreat.flow Go.Proofs.YtodpjmbclmlieaaGreat.whl
theorem IsI.drew {w : World} {v : Value} {l : List Int} (h : IsI w v l) : IsI w.drew v l := h
theorem IsI.off {w w' : World} {v : Value} {l : List Int} {g : Nat} {e : TypeId} {cs : Array Value} (h : IsI w v l) (hB : w.heap[g]? = some (.cells cs e (0, 0))) (hno : ∀ c ∈ cs, ∀ n, c ≠ .int .i64 n) (hg : w.grownBy w' (some g)) : IsI w' v l := by
  obtain ⟨A, c, rfl, h1, h2, h3, h4⟩ := h
  refine ⟨A, c, rfl, h1, h2, h3, fun i z hz => ?_⟩
  obtain ⟨ad, rfl, hc⟩ := h4 i z hz
  refine ⟨ad, rfl, hg.cell hc fun e1 => ?_⟩
  injection e1 with e1
  have hcell : ∀ q : Addr, q.block = g → w.cell? q = some (.int .i64 z) → False := by
    intro p hp hpc
    unfold World.cell? at hpc
    rw [hp, hB] at hpc
    simp only [] at hpc
    split at hpc
    · cases hpc
    · exact hno _ (Array.mem_of_getElem? hpc) _ rfl
  exact hcell _ e1 hc
/-- A slice of these, and an error's number. -/
def psl (k : IntKind) (B : Nat) (L : List Rat) (n : Int) : Pd := ⟨fun w t => ∃ V, t = .tuple #[V, .int .i64 n] ∧ SlF k B w V L, fun h hb => by obtain ⟨V, e, h1⟩ := h; exact ⟨V, e, h1.below hb⟩⟩
def pslv (k : IntKind) (B : Nat) (L : List Rat) : Pd := ⟨fun w v => SlF k B w v L, fun h hb => h.below hb⟩
theorem RetQLE.pd {l : List Rat} {n : Int} {w : World} {e : Ending} {w' : World} (h : RetQLE l n w e w') : RetPd (psl .u64 4294967296 (if n = 0 then l else []) n) w e w' := by
  obtain ⟨V, h1, h2, h3⟩ := h
  exact ⟨_, h1, ⟨V, rfl, h2⟩, h3⟩
theorem RetLE.pd {l : List Rat} {n : Int} {w : World} {e : Ending} {w' : World} (h : RetLE l n w e w') : RetPd (psl .i64 10000 (if n = 0 then l else []) n) w e w' := by
  obtain ⟨V, h1, h2, h3⟩ := h
  exact ⟨_, h1, ⟨V, rfl, h2⟩, h3⟩
set_option linter.unusedVariables false
/-- What a row of pairs is made of. -/
theorem zip_mem {f : Rat → Rat → Rat} : ∀ {p q : List Rat} {r : Rat}, r ∈ List.zipWith f p q → ∃ x ∈ p, ∃ y ∈ q, r = f x y
  | [], _, _, h => by simp at h
  | _ :: _, [], _, h => by simp at h
  | x :: p, y :: q, r, h => by
    rw [List.zipWith_cons_cons] at h
    rcases List.mem_cons.1 h with h | h
    · exact ⟨x, List.mem_cons_self, y, List.mem_cons_self, h⟩
    · obtain ⟨a, ha, b, hb, e⟩ := zip_mem h
      exact ⟨a, List.mem_cons_of_mem _ ha, b, List.mem_cons_of_mem _ hb, e⟩
theorem zip_at {f : Rat → Rat → Rat} {p q : List Rat} {k : Nat} {x y : Rat} (hx : p[k]? = some x) (hy : q[k]? = some y) : (List.zipWith f p q)[k]? = some (f x y) := by rw [List.getElem?_zipWith, hx, hy]
theorem zip_len {f : Rat → Rat → Rat} {p q : List Rat} (h : p.length = q.length) : (List.zipWith f p q).length = p.length := by rw [List.length_zipWith, h, Nat.min_self]
/-- The sum of the products; a row less another so many times; so many times a row. -/
def prods (p q : List Rat) : List Rat := List.zipWith (fun x y => x * y) p q
def dotq (p q : List Rat) : Rat := sumq (prods p q)
def lessq (p : List Rat) (k : Rat) (q : List Rat) : List Rat := List.zipWith (fun x y => x - k * y) p q
def scaleq (p : List Rat) (k : Rat) : List Rat := p.map (fun x => x * k)
theorem lenQ_prods {p q : List Rat} {m : Nat} (h : ∀ x ∈ p, lenQ x m) (h2 : ∀ x ∈ q, lenQ x m) : ∀ r ∈ prods p q, lenQ r (m + m) := by
  intro r hr
  obtain ⟨x, hx, y, hy, rfl⟩ := zip_mem hr
  exact lenQ_mul (h x hx) (h2 y hy)
theorem lenQ_dotq {p q : List Rat} {m : Nat} (h : ∀ x ∈ p, lenQ x m) (h2 : ∀ x ∈ q, lenQ x m) (he : p.length = q.length) : lenQ (dotq p q) ((m + m + 1) * p.length + 1) := by
  have := lenQ_sumq (lenQ_prods h h2)
  rwa [show (prods p q).length = p.length from zip_len he] at this
set_option maxHeartbeats 3200000 in
set_option maxRecDepth 100000 in
theorem rdot_any (a0 a1 : Value) (p q : List Rat) (m : Nat) (w : World) (h0 : SlF .i64 10000 w a0 p) (h1 : SlF .i64 10000 w a1 q) (he : p.length = q.length) (hl : (∀ x ∈ p, lenQ x m) ∧ (∀ x ∈ q, lenQ x m) ∧ (m + m + 1) * p.length + 1 ≤ 4000) :
    Calls Tryz.prog 24 #[a0, a1] w (RetP (dotq p q) w) := by
  have sl0 := h0
  obtain ⟨A0, c0, rfl, hc0, hm0⟩ := h0.shape
  unfold maxLen at hm0
  have sl1 := h1
  obtain ⟨A1, c1, rfl, hc1, hm1⟩ := h1.shape
  unfold maxLen at hm1
  have HLE := Lib.hid hl
  have HE := Lib.hid he
  clear he hl
  go_enter Tryz.func24, Tryz.ntmps24
  go_upto_region 1 with (fail)
  obtain ⟨wx, hwx, bb, BR0, hsz⟩ := vars1 w 45 #[.bool false, .slice none 0 0, .slice none 0 0]
  rw [hwx]
  clear hwx
  have hsz0 := bb.size
  have sB := bb.size
  have lt0_4 := Blk.lt BR0
  refine flowp 2 [pp ((0 : Rat)), pn 45 #[.bool false, .slice none 0 0, .slice none 0 0] wx.heap.size] (by kernel_rfl) ?ob1 ?done1
  case ob1 =>
    refine And.intro (ob_call2 rfl Tryz.func15 (by kernel_rfl) (wt_none rfl) (ev_const _) (ev_const _) (fun w2 u0 u1 hb h0 h1 => by obtain rfl := h0; obtain rfl := h1; exact (qnum_any 0 1 _ 1 rfl (by omega) (by omega) (by omega) (by omega)).mono fun e w3 h => RetPF.pd ((show mkRat 0 1 = (0 : Rat) by decide +kernel) ▸ h))) ?_
    refine And.intro (ob_alloc (z := .agg #[.bool false, .slice none 0 0, .slice none 0 0]) rfl rfl (fun _ => by kernel_rfl) (fun _ _ hB h => ⟨_, rfl, hB, h⟩)) ?_
    trivial
  case done1 =>
    refine fun w1 hb1 v0 h0 v1 h1 d1 b hbf => ?_
    have q0 := h0
    obtain ⟨g1_1, rfl, hg1, B1⟩ := h1
    simp only [Act.put, List.setIfInBounds_toArray, List.set_cons_zero, List.set_cons_succ] at hbf
    subst hbf
    replace BR0 := BR0.below hb1
    replace bb := bb.trans (hb1.mono bb.size)
    have hsz1 := bb.size
    have BA5 := B1
    obtain ⟨u0, t0, rfl, q0, d0⟩ := q0
    obtain ⟨A5, c5, rfl, _⟩ := id q0
    obtain ⟨D5, e5, rfl, _⟩ := id d0
    refine ops_store (i := 2) rfl rfl rfl rfl rfl rfl (cells := [.bool (ngB ((0 : Rat)).num), .slice A5 (digs 10000 ((0 : Rat)).num.natAbs).length c5, .slice D5 (digs 10000 ((0 : Rat)).den).length e5]) rfl BA5 rfl (by kernel_rfl) (one3 rfl rfl rfl) fun w2 hg2 BN2 => ?_
    replace q0 := off q0 BA5 no_ints3 hg2
    replace d0 := off d0 BA5 no_ints3 hg2
    replace BR0 := BR0.grown hg2 (by omega)
    replace bb := bb.trans ((Below.refl _ _).grown hg2 bb.size (fun g hg => by injection hg with hg; omega))
    have hsz2 := bb.size
    have B5 : Blk w2 (g1_1) _ _ := BN2
    have k5s := q0
    have k5d := d0
    have k5z : IsR w2 (.agg #[.bool (ngB ((0 : Rat)).num), .slice A5 (digs 10000 ((0 : Rat)).num.natAbs).length c5]) (((0 : Rat)).num) := ⟨_, rfl, k5s⟩
    have k5 : IsP w2 (.agg #[.bool (ngB ((0 : Rat)).num), .slice A5 (digs 10000 ((0 : Rat)).num.natAbs).length c5, .slice D5 (digs 10000 ((0 : Rat)).den).length e5]) ((0 : Rat)) := ⟨_, _, rfl, k5s, k5d⟩
    refine ops_done ?_
    go_wp2
    go_loopw [6] (fun v6 wr => ∃ k : Nat, k ≤ p.length ∧ HoldP wr g1_1 (sumq ((prods p q).take k)) ∧ Blk wr w.heap.size 45 #[.bool false, .slice none 0 0, .slice none 0 0] ∧ Below w.heap.size w wr ∧ g1_1 < wr.heap.size ∧ v6 = .int .i64 (k : Int)) (fun v6 _ => p.length - (intOf v6).toNat)
    case atStart => exact ⟨0, by omega, ⟨_, _, B5, k5s, k5d⟩, BR0, bb, B5.lt, rfl⟩
    case round =>
      obtain ⟨k, hk, hH, hR, hbw, hGl, rfl⟩ := hrel
      clear B5 k5s k5d k5z k5 BR0 bb
      have BR0 := hR
      have bb := hbw
      obtain ⟨u5, t5, B5, k5s, k5d⟩ := hH
      obtain ⟨A5, c5, rfl, _⟩ := id k5s
      obtain ⟨D5, e5, rfl, _⟩ := id k5d
      obtain ⟨s, hs⟩ : ∃ s, s = sumq ((prods p q).take k) := ⟨_, rfl⟩
      rw [← hs] at B5 k5s k5d
      have HS := Lib.hid hs
      clear hs hR hbw
      have ls : lenQ s 4000 := by
        rw [HS.out]
        refine (lenQ_sumq (fun x hx => lenQ_prods HLE.out.1 HLE.out.2.1 x (List.mem_of_mem_take hx))).mono ?_
        rw [List.length_take, show (prods p q).length = p.length from zip_len HE.out, Nat.min_eq_left hk]
        exact Nat.le_trans (Nat.add_le_add_right (Nat.mul_le_mul_left _ hk) _) HLE.out.2.2
      have k5z : IsR wr (.agg #[.bool (ngB s.num), .slice A5 (digs 10000 s.num.natAbs).length c5]) s.num := ⟨_, rfl, k5s⟩
      have k5 : IsP wr (.agg #[.bool (ngB s.num), .slice A5 (digs 10000 s.num.natAbs).length c5, .slice D5 (digs 10000 s.den).length e5]) s := ⟨_, _, rfl, k5s, k5d⟩
      have hszr := bb.size
      by_cases hlt : k < p.length
      · have hlt2 : k < q.length := by have := HE.out; omega
        obtain ⟨x, hq0_⟩ : ∃ x, p[k]? = some x := ⟨_, List.getElem?_eq_getElem hlt⟩
        obtain ⟨g0_, o0_, ue0, te0, hA0_, _, e00, e01, e02, es0, ed0⟩ := (sl0.below bb).at_ hq0_
        subst hA0_
        have HQ0 := Lib.hid hq0_
        clear hq0_
        obtain ⟨Ae0, ce0, rfl, _⟩ := id es0
        obtain ⟨De0, ee0, rfl, _⟩ := id ed0
        have ke0 : IsP wr (.agg #[.bool (ngB x.num), .slice Ae0 (digs 10000 x.num.natAbs).length ce0, .slice De0 (digs 10000 x.den).length ee0]) x := ⟨_, _, rfl, es0, ed0⟩
        obtain ⟨y, hq1_⟩ : ∃ y, q[k]? = some y := ⟨_, List.getElem?_eq_getElem hlt2⟩
        obtain ⟨g1_, o1_, ue1, te1, hA1_, _, e10, e11, e12, es1, ed1⟩ := (sl1.below bb).at_ hq1_
        subst hA1_
        have HQ1 := Lib.hid hq1_
        clear hq1_
        obtain ⟨Ae1, ce1, rfl, _⟩ := id es1
        obtain ⟨De1, ee1, rfl, _⟩ := id ed1
        have ke1 : IsP wr (.agg #[.bool (ngB y.num), .slice Ae1 (digs 10000 y.num.natAbs).length ce1, .slice De1 (digs 10000 y.den).length ee1]) y := ⟨_, _, rfl, es1, ed1⟩
        have hm2 : m + m + 1 ≤ 4000 := by have := HLE.out.2.2; have := Nat.le_trans (Nat.le_mul_of_pos_right (m + m + 1) (show 0 < p.length by omega)) (Nat.le_of_succ_le this); omega
        have lx : lenQ x m := HLE.out.1 x (List.mem_of_getElem? HQ0.out)
        have ly : lenQ y m := HLE.out.2.1 y (List.mem_of_getElem? HQ1.out)
        have lxy : lenQ (x * y) 4000 := (lenQ_mul lx ly).mono (by omega)
        have sB := bb.size
        go_upto_region 5 with (fail)
        refine flow 11 [Pd.eq (.agg #[.bool (ngB (s).num), .slice A5 (digs 10000 (s).num.natAbs).length c5, .slice D5 (digs 10000 (s).den).length e5]), Pd.eq (.slice (some ⟨g0_, o0_, none⟩) p.length c0), Pd.eq (.int .i64 (k : Int)), Pd.eq (.pointer (some ⟨g0_, o0_ + k * 3, none⟩)), Pd.eq (.agg #[.bool (ngB x.num), .slice Ae0 (digs 10000 x.num.natAbs).length ce0, .slice De0 (digs 10000 x.den).length ee0]), Pd.eq (.slice (some ⟨g1_, o1_, none⟩) q.length c1), Pd.eq (.int .i64 (k : Int)), Pd.eq (.pointer (some ⟨g1_, o1_ + k * 3, none⟩)), Pd.eq (.agg #[.bool (ngB y.num), .slice Ae1 (digs 10000 y.num.natAbs).length ce1, .slice De1 (digs 10000 y.den).length ee1]), pp ((x * y)), pp ((s + x * y))] (by kernel_rfl) (by kernel_rfl) ?ob2 ?done2
        case ob2 =>
          refine And.intro (ob_load rfl (wt_none rfl) (ev_far rfl rfl) (fun w2 hb => run_loadAll Tryz.underlying45 rfl (by kernel_rfl) (B5.drew.below hb)) (fun _ _ => rfl)) ?_
          refine And.intro (ob_move rfl (wt_none rfl) (ev_far rfl rfl) (fun _ _ h => h)) ?_
          refine And.intro (ob_move rfl (wt_none rfl) (ev_far rfl rfl) (fun _ _ h => h)) ?_
          refine And.intro (ob_indexAddr rfl (wt_none rfl) (ev_dep (j := 1) (by kernel_rfl) rfl rfl) (ev_dep (j := 2) (by kernel_rfl) rfl rfl) (fun _ _ _ hx hy => ⟨_, by rw [hx, hy]; exact index3 Tryz.underlying29 (by kernel_rfl) hlt _, rfl⟩)) ?_
          refine And.intro (ob_load rfl (wt_none rfl) (ev_dep (j := 3) (by kernel_rfl) rfl rfl) (fun w2 hb => load3 Tryz.underlying45 rfl (by kernel_rfl) ((hb.cell (World.block_lt_of_cell? wr _ e00)).trans e00) ((hb.cell (World.block_lt_of_cell? wr _ e01)).trans e01) ((hb.cell (World.block_lt_of_cell? wr _ e02)).trans e02)) (fun _ _ => rfl)) ?_
          refine And.intro (ob_move rfl (wt_none rfl) (ev_far rfl rfl) (fun _ _ h => h)) ?_
          refine And.intro (ob_move rfl (wt_none rfl) (ev_far rfl rfl) (fun _ _ h => h)) ?_
          refine And.intro (ob_indexAddr rfl (wt_none rfl) (ev_dep (j := 5) (by kernel_rfl) rfl rfl) (ev_dep (j := 6) (by kernel_rfl) rfl rfl) (fun _ _ _ hx hy => ⟨_, by rw [hx, hy]; exact index3 Tryz.underlying29 (by kernel_rfl) hlt2 _, rfl⟩)) ?_
          refine And.intro (ob_load rfl (wt_none rfl) (ev_dep (j := 7) (by kernel_rfl) rfl rfl) (fun w2 hb => load3 Tryz.underlying45 rfl (by kernel_rfl) ((hb.cell (World.block_lt_of_cell? wr _ e10)).trans e10) ((hb.cell (World.block_lt_of_cell? wr _ e11)).trans e11) ((hb.cell (World.block_lt_of_cell? wr _ e12)).trans e12)) (fun _ _ => rfl)) ?_
          refine And.intro (ob_call2 rfl Tryz.func36 (by kernel_rfl) (wt_none rfl) (ev_dep (j := 4) (by kernel_rfl) rfl rfl) (ev_dep (j := 8) (by kernel_rfl) rfl rfl) (fun w2 u0 u1 hb h0 h1 => by obtain rfl := h0; obtain rfl := h1; exact (qmul_any _ x _ y _ (ke0.drew.below hb) (ke1.drew.below hb) (lx.mono (by omega)) (ly.mono (by omega))).mono fun e w3 h => RetPF.pd h)) ?_
          refine And.intro (ob_call2 rfl Tryz.func50 (by kernel_rfl) (wt_none rfl) (ev_dep (j := 0) (by kernel_rfl) rfl rfl) (ev_dep (j := 9) (by kernel_rfl) rfl rfl) (fun w2 u0 u1 hb h0 h1 => by obtain rfl := h0; exact (qadd_any _ s _ (x * y) _ (k5.drew.below hb) h1 (ls.mono (by decide)) (lxy.mono (by decide))).mono fun e w3 h => RetPF.pd h)) ?_
          trivial
        case done2 =>
          refine fun w4 hb4 v0 h0 v1 h1 v2 h2 v3 h3 v4 h4 v5 h5 v6 h6 v7 h7 v8 h8 v9 h9 v10 h10 b hbf => ?_
          obtain rfl := h0; obtain rfl := h1; obtain rfl := h2; obtain rfl := h3; obtain rfl := h4; obtain rfl := h5; obtain rfl := h6; obtain rfl := h7; obtain rfl := h8
          have q9 := h9
          have q10 := h10
          simp only [Act.put, List.setIfInBounds_toArray, List.set_cons_zero, List.set_cons_succ] at hbf
          subst hbf
          replace BR0 := BR0.below hb4
          replace B5 := B5.below hb4
          replace k5s := k5s.below hb4
          replace k5d := k5d.below hb4
          replace k5z := k5z.below hb4
          replace k5 := k5.below hb4
          replace bb := bb.trans (hb4.mono bb.size)
          have hsz4 := bb.size
          obtain ⟨u10, t10, rfl, q10, d10⟩ := q10
          obtain ⟨A4, c4, rfl, _⟩ := id q10
          obtain ⟨D4, e4, rfl, _⟩ := id d10
          refine any_store (i := 11) (by kernel_rfl) rfl rfl rfl rfl rfl rfl (cells := [.bool (ngB ((s + x * y)).num), .slice A4 (digs 10000 ((s + x * y)).num.natAbs).length c4, .slice D4 (digs 10000 ((s + x * y)).den).length e4]) rfl B5 rfl (by kernel_rfl) (one3 rfl rfl rfl) fun w5 hg5 BN5 => ?_
          replace q10 := off q10 B5 no_ints3 hg5
          replace d10 := off d10 B5 no_ints3 hg5
          replace BR0 := BR0.grown hg5 (by omega)
          replace bb := bb.trans ((Below.refl _ _).grown hg5 bb.size (fun g hg => by injection hg with hg; omega))
          have hsz5 := bb.size
          have B4 : Blk w5 (g1_1) _ _ := BN5
          have k4s := q10
          have k4d := d10
          have k4z : IsR w5 (.agg #[.bool (ngB ((s + x * y)).num), .slice A4 (digs 10000 ((s + x * y)).num.natAbs).length c4]) (((s + x * y)).num) := ⟨_, rfl, k4s⟩
          have k4 : IsP w5 (.agg #[.bool (ngB ((s + x * y)).num), .slice A4 (digs 10000 ((s + x * y)).num.natAbs).length c4, .slice D4 (digs 10000 ((s + x * y)).den).length e4]) ((s + x * y)) := ⟨_, _, rfl, k4s, k4d⟩
          refine any_done (by kernel_rfl) ?_
          have HN : Hid (s + x * y = sumq ((prods p q).take (k + 1))) := by show _ = _; rw [take_snoc (show (prods p q)[k]? = some (x * y) from zip_at HQ0.out HQ1.out), sumq_snoc, HS.out]
          go_wp2
          go_roundw
          case rel => exact ⟨k + 1, by omega, by rw [← HN.out]; exact ⟨_, _, B4, k4s, k4d⟩, BR0, bb, B4.lt, by go_num⟩
          case measure => simp [intOf]; omega
      · have HN : Hid (s = dotq p q) := by show _ = _; rw [HS.out, List.take_of_length_le (by rw [show (prods p q).length = p.length from zip_len HE.out]; omega)]; rfl
        have sB := bb.size
        go_upto_region 6 with (fail)
        refine flowp 1 [Pd.eq (.agg #[.bool (ngB (s).num), .slice A5 (digs 10000 (s).num.natAbs).length c5, .slice D5 (digs 10000 (s).den).length e5])] (by kernel_rfl) ?ob3 ?done3
        case ob3 =>
          refine And.intro (ob_load rfl (wt_none rfl) (ev_far rfl rfl) (fun w2 hb => run_loadAll Tryz.underlying45 rfl (by kernel_rfl) (B5.below hb)) (fun _ _ => rfl)) ?_
          trivial
        case done3 =>
          refine fun w4 hb4 v0 h0 b hbf => ?_
          obtain rfl := h0
          simp only [Act.put, List.setIfInBounds_toArray, List.set_cons_zero, List.set_cons_succ] at hbf
          subst hbf
          replace BR0 := BR0.below hb4
          replace B5 := B5.below hb4
          replace k5s := k5s.below hb4
          replace k5d := k5d.below hb4
          replace k5z := k5z.below hb4
          replace k5 := k5.below hb4
          replace bb := bb.trans (hb4.mono bb.size)
          have hsz4 := bb.size
          refine ops_store (i := 1) rfl rfl rfl rfl rfl rfl (cells := [.bool (ngB (s).num), .slice A5 (digs 10000 (s).num.natAbs).length c5, .slice D5 (digs 10000 (s).den).length e5]) rfl BR0 rfl (by kernel_rfl) (one3 rfl rfl rfl) fun w9 hg9 B9 => ?_
          have k9 := off k5s BR0 no_ints3 hg9
          have d9 := off k5d BR0 no_ints3 hg9
          have bb9 := bb.trans ((Below.refl _ _).grown hg9 bb.size (fun g hg => by injection hg with hg; omega))
          obtain ⟨C0, C1, C2, _, _, _⟩ := three B9
          refine ops_done ?_
          go_wp2
          rw [← HN.out]
          exact bodyPost_ret (v := .agg #[.bool (ngB (s).num), .slice A5 (digs 10000 (s).num.natAbs).length c5, .slice D5 (digs 10000 (s).den).length e5]) (by simp [results, Tryz.results24, go_sem, C0, C1, C2]) rfl ⟨_, rfl, ⟨_, _, rfl, k9, d9⟩, bb9⟩
/-- The first place that is not 0; the length, if there is none. -/
def leadq : List Rat → Nat
  | [] => 0
  | x :: p => if x = 0 then leadq p + 1 else 0
theorem leadq_is : ∀ {p : List Rat} {k : Nat}, k ≤ p.length → (∀ x ∈ p.take k, x = 0) → (∀ x, p[k]? = some x → x ≠ 0) → leadq p = k
  | [], k, h, _, _ => by
    have : k = 0 := by simpa using h
    subst this; rfl
  | x :: p, 0, _, _, h3 => by
    have := h3 x rfl
    rw [leadq, if_neg this]
  | x :: p, k + 1, h1, h2, h3 => by
    have hx : x = 0 := h2 x (by rw [List.take_succ_cons]; exact List.mem_cons_self)
    rw [leadq, if_pos hx, leadq_is (p := p) (k := k) (by simpa using h1) (fun y hy => h2 y (by rw [List.take_succ_cons]; exact List.mem_cons_of_mem _ hy)) (fun y hy => h3 y (by simpa using hy))]
/-- The place taken for the greatest after k of them were looked at. -/
def bestq (p : List Rat) : Nat → Nat
  | 0 => 0
  | k + 1 => if p.getD (bestq p k) 0 < p.getD k 0 then k else bestq p k
def topq (p : List Rat) : Nat := bestq p p.length
theorem bestq_lt (p : List Rat) : ∀ k, bestq p k = 0 ∨ bestq p k < k
  | 0 => .inl rfl
  | k + 1 => by
    rw [bestq]
    split
    · right; omega
    · rcases bestq_lt p k with h | h
      · exact .inl h
      · right; omega
theorem bestq_yes {p : List Rat} {k : Nat} {x y : Rat} (hx : p[k]? = some x) (hy : p[bestq p k]? = some y) (h : y < x) : bestq p (k + 1) = k := by
  rw [bestq, List.getD_eq_getElem?_getD, List.getD_eq_getElem?_getD, hx, hy]
  exact if_pos h
theorem bestq_no {p : List Rat} {k : Nat} {x y : Rat} (hx : p[k]? = some x) (hy : p[bestq p k]? = some y) (h : ¬ y < x) : bestq p (k + 1) = bestq p k := by
  rw [bestq, List.getD_eq_getElem?_getD, List.getD_eq_getElem?_getD, hx, hy]
  exact if_neg h
/-- The sum, place by place. -/
def addq (p q : List Rat) : List Rat := List.zipWith (fun x y => x + y) p q
theorem addq_len {p q : List Rat} (h : p.length = q.length) : (addq p q).length = p.length := zip_len h
theorem scaleq_len (p : List Rat) (k : Rat) : (scaleq p k).length = p.length := List.length_map _
theorem lessq_len {p q : List Rat} {k : Rat} (h : p.length = q.length) : (lessq p k q).length = p.length := zip_len h
theorem lessq_neg (p q : List Rat) : lessq p (-1) q = addq p q := by
  unfold lessq addq
  congr 1
  funext x y
  grind
theorem lenQ_addq {p q : List Rat} {m n : Nat} (h : ∀ x ∈ p, lenQ x m) (h2 : ∀ x ∈ q, lenQ x n) : ∀ x ∈ addq p q, lenQ x (m + n + 1) := by
  intro r hr
  obtain ⟨x, hx, y, hy, rfl⟩ := zip_mem hr
  exact lenQ_add2 (h x hx) (h2 y hy)
theorem lenQ_scaleq {p : List Rat} {k : Rat} {m n : Nat} (h : ∀ x ∈ p, lenQ x m) (h2 : lenQ k n) : ∀ x ∈ scaleq p k, lenQ x (m + n) := by
  intro r hr
  obtain ⟨x, hx, rfl⟩ := List.mem_map.1 hr
  exact lenQ_mul (h x hx) h2
/-- Noughts, and a unit. -/
def zerosq (d : Nat) : List Rat := List.replicate d 0
theorem zerosq_len (d : Nat) : (zerosq d).length = d := List.length_replicate
theorem zerosq_at {d k : Nat} (h : k < d) : (zerosq d)[k]? = some 0 := by simp [zerosq, h]
theorem zerosq_mem {d : Nat} {x : Rat} (h : x ∈ zerosq d) : x = 0 := (List.mem_replicate.1 h).2
theorem lenQ_01 {x : Rat} (h : x = 0 ∨ x = 1) : lenQ x 1 := by
  rcases h with rfl | rfl
  · exact ⟨by show lenZ 0 ≤ _; rw [lenZ_zero]; omega, digs_len_le (k := 1) (by omega) (by decide +kernel)⟩
  · exact ⟨digs_len_le (k := 1) (by omega) (by decide +kernel), digs_len_le (k := 1) (by omega) (by decide +kernel)⟩
/-- A row of these, made by the call, and an error's number. -/
def RetRN (qs : List Rat) (w : World) (e : Ending) (w' : World) : Prop := ∃ g, e = .returned (.tuple #[.slice (some ⟨g, 0, none⟩) qs.length qs.length, .int .i64 0]) ∧ RowN w' g qs.length qs ∧ w.heap.size ≤ g ∧ Below w.heap.size w w'
/-- No row, and an error's number. -/
def RetNN (n : Int) (w : World) (e : Ending) (w' : World) : Prop := e = .returned (.tuple #[.slice none 0 0, .int .i64 n]) ∧ Below w.heap.size w w'
/-- A row of these, made by the call. -/
def prn (n : Nat) (qs : List Rat) (B : Nat) : Pd := ⟨fun w t => ∃ g, t = .tuple #[.slice (some ⟨g, 0, none⟩) n n, .int .i64 0] ∧ RowN w g n qs ∧ B ≤ g, fun h hb => by obtain ⟨g, e, h1, h2⟩ := h; exact ⟨g, e, h1.below hb, h2⟩⟩
def pro (n : Nat) (qs : List Rat) (B : Nat) : Pd := ⟨fun w v => ∃ g, v = .slice (some ⟨g, 0, none⟩) n n ∧ RowN w g n qs ∧ B ≤ g, fun h hb => by obtain ⟨g, e, h1, h2⟩ := h; exact ⟨g, e, h1.below hb, h2⟩⟩
theorem RetRN.pd {n : Nat} {qs : List Rat} {w : World} {e : Ending} {w' : World} {B : Nat} (h : RetRN qs w e w') (hn : qs.length = n) (hB : B ≤ w.heap.size) : RetPd (prn n qs B) w e w' := by
  obtain ⟨g, h1, h2, h3, h4⟩ := h
  rw [hn] at h1 h2
  exact ⟨_, h1, ⟨g, rfl, h2, Nat.le_trans hB h3⟩, h4⟩
theorem RetNN.pd {n : Int} {w : World} {e : Ending} {w' : World} (h : RetNN n w e w') : RetPd (Pd.eq (.tuple #[.slice none 0 0, .int .i64 n])) w e w' := ⟨_, h.1, rfl, h.2⟩
section
variable {P : Program} {Q : Exit → Act → World → Prop} {ops : Array Oper} {L : List Oper} {Φ : List Pd} {w0 : World} {a0 : Act} {i : Nat} {o : Oper}
end
/-- The variable's fraction is laid into the row: the variable stays as it is, even if it should be that row. -/
theorem HoldQ.row {w w' : World} {g G n : Nat} {ls : List Rat} {s : Rat} (h : HoldQ w G s) (hR : RowN w g n ls) (hg : w.grownBy w' (some g)) (hR' : RowN w' g n (ls ++ [s])) : HoldQ w' G s := by
  obtain ⟨u, t, h1, h2, h3⟩ := h
  by_cases e : g = G
  · subst e
    obtain ⟨ps, k1, k2, k3, k4, k5⟩ := id hR
    have e1 : ps.length = 1 := by
      unfold Blk at k3 h1
      rw [k3] at h1
      injection h1 with h1
      injection h1 with h1
      have := congrArg Array.size h1
      rw [List.size_toArray, flat3_len] at this
      simp at this
      omega
    obtain ⟨rs, r1, r2, r3, r4, r5⟩ := hR'
    have e2 : ls = [] := by
      rw [List.length_append, List.length_singleton] at r2
      exact List.length_eq_zero_iff.1 (by omega)
    subst e2
    obtain ⟨p, q1, q2, q3⟩ := r5 0 s rfl
    obtain ⟨r, rfl⟩ : ∃ r, rs = [r] := List.length_eq_one_iff.1 (by omega)
    obtain rfl : r = p := by simpa using q1
    subst q2
    exact ⟨r.2.1, r.2.2, r3, q3.1, q3.2⟩
  · exact ⟨u, t, h1.grown hg (fun e' => e e'.symm), hR.keep hg h2, hR.keep hg h3⟩
set_option linter.unusedSimpArgs false
/-- The whole numbers 0 and 1 as fractions. -/
theorem RatV_of0 (w : World) : Calls Tryz.prog 37 #[.int .i64 0] w (RetQ (0 : Rat) w) := of8_any 0 w (by omega) (by omega)
/-- A row of these, made by the call. -/
def RetRo (qs : List Rat) (w : World) (e : Ending) (w' : World) : Prop := ∃ g, e = .returned (.slice (some ⟨g, 0, none⟩) qs.length qs.length) ∧ RowN w' g qs.length qs ∧ w.heap.size ≤ g ∧ Below w.heap.size w w'
theorem RetRo.pd {n : Nat} {qs : List Rat} {w : World} {e : Ending} {w' : World} {B : Nat} (h : RetRo qs w e w') (hn : qs.length = n) (hB : B ≤ w.heap.size) : RetPd (pro n qs B) w e w' := by
  obtain ⟨g, h1, h2, h3, h4⟩ := h
  rw [hn] at h1 h2
  exact ⟨_, h1, ⟨g, rfl, h2, Nat.le_trans hB h3⟩, h4⟩
theorem RetRN.qle {qs : List Rat} {w : World} {e : Ending} {w' : World} (h : RetRN qs w e w') (hl : qs.length ≤ 1000000000) : RetQLE qs 0 w e w' := by
  obtain ⟨g, he, hR, _, hb⟩ := h
  exact ⟨_, he, by rw [if_pos rfl]; exact hR.sl rfl hl, hb⟩
theorem RetNN.qle {n : Int} {w : World} {e : Ending} {w' : World} (h : RetNN n w e w') : RetQLE [] n w e w' :=
  ⟨_, h.1, by split <;> exact slF_nil _ _ _, h.2⟩
set_option maxHeartbeats 3200000 in
set_option maxRecDepth 100000 in
theorem noughts_any (n : Int) (d : Nat) (w : World) (hn : n = (d : Int)) (hd : d ≤ 200) :
    Calls Tryz.prog 30 #[.int .i64 n] w (RetRo (zerosq d) w) := by
  have bb : Below w.heap.size w w := Below.refl _ _
  subst hn
  have HZL : Hid ((zerosq d).length = d) := zerosq_len d
  go_enter Tryz.func30, Tryz.ntmps30
  go_upto_region 1 with (fail)
  have hsz0 := bb.size
  go_wp2_with (at_make; refine wpList_make_q rfl _ _ rfl Tryz.underlying22 info_rat d rfl rfl (by omega) ?_; intro wm RN hbm)
  replace bb := bb.trans (hbm.mono bb.size)
  have hsz1 := bb.size
  obtain ⟨g, hg⟩ : ∃ g, g = w.heap.size := ⟨_, rfl⟩
  rw [← hg] at RN ⊢
  have hg_ : w.heap.size ≤ g := by omega
  clear hg
  have hg := hg_
  clear hg_
  go_wp2
  go_loopw [9] (fun v9 wr => ∃ k : Nat, k ≤ d ∧ RowN wr g d ((zerosq d).take k) ∧ Below w.heap.size w wr ∧ v9 = .int .i64 (k : Int)) (fun v9 _ => d - (intOf v9).toNat)
  case atStart => exact ⟨0, by omega, RN, bb, rfl⟩
  case round =>
    obtain ⟨k, hk, hR, hbw, rfl⟩ := hrel
    clear RN bb
    have RN := hR
    have bb := hbw
    clear hR hbw
    have hszr := bb.size
    have hgl := RN.lt
    by_cases hlt : k < d
    · have HTK : Hid ((zerosq d).take (k + 1) = (zerosq d).take k ++ [0]) := take_snoc (zerosq_at hlt)
      have HLK : Hid (k = ((zerosq d).take k).length) := by show _ = _; rw [List.length_take, HZL.out]; omega
      have sB := bb.size
      go_upto_region 5 with (fail)
      refine flowp 4 [Pd.eq (.slice (some ⟨g, 0, none⟩) d d), Pd.eq (.int .i64 (k : Int)), pq ((0 : Rat)) wr.heap.size, Pd.eq (.pointer (some ⟨g, 0 + k * 3, none⟩))] (by kernel_rfl) ?ob1 ?done1
      case ob1 =>
        refine And.intro (ob_move rfl (wt_none rfl) (ev_far rfl rfl) (fun _ _ h => h)) ?_
        refine And.intro (ob_move rfl (wt_none rfl) (ev_far rfl rfl) (fun _ _ h => h)) ?_
        refine And.intro (ob_call1 rfl Tryz.func37 (by kernel_rfl) (wt_none rfl) (ev_const _) (fun w2 u0 hb h0 => by obtain rfl := h0; exact (RatV_of0 _).mono fun e w3 h => RetQ.pd h hb.size)) ?_
        refine And.intro (ob_indexAddr rfl (wt_none rfl) (ev_dep (j := 0) (by kernel_rfl) rfl rfl) (ev_dep (j := 1) (by kernel_rfl) rfl rfl) (fun _ _ _ hx hy => ⟨_, by rw [hx, hy]; exact index3 (k := k) Tryz.underlying22 (by kernel_rfl) hlt _, rfl⟩)) ?_
        trivial
      case done1 =>
        refine fun w3 hb3 v0 h0 v1 h1 v2 h2 v3 h3 b hbf => ?_
        obtain rfl := h0; obtain rfl := h1; obtain rfl := h3
        obtain ⟨q2, f2⟩ := h2
        simp only [Act.put, List.setIfInBounds_toArray, List.set_cons_zero, List.set_cons_succ] at hbf
        subst hbf
        replace RN := RN.below hb3
        replace bb := bb.trans (hb3.mono bb.size)
        have hsz3 := bb.size
        have s_2 := sB
        obtain ⟨u2, t2, rfl, q2, d2⟩ := q2
        obtain ⟨A9, c9, rfl, _⟩ := id q2
        obtain ⟨D9, e9, rfl, _⟩ := id d2
        refine ops_store_q (j := 4) rfl rfl rfl rfl (g := g) (i := k) (q := (0 : Rat)) rfl rfl (by kernel_rfl) RN hlt q2 d2 fun w4 hg4 hP4 => ?_
        replace bb := bb.trans ((Below.refl _ _).grown hg4 bb.size (fun g hg => by injection hg with hg; omega))
        have hsz4 := bb.size
        replace RN := hP4.1 HLK.out
        clear hP4
        refine ops_done ?_
        rw [← HTK.out] at RN
        have hsk : d - (k + 1) < d - k := by omega
        go_wp2
        go_roundw
        case rel => exact ⟨k + 1, by omega, RN, bb, by go_num⟩
        case measure => simp [intOf]; omega
    · rw [List.take_of_length_le (by rw [HZL.out]; omega)] at RN
      go_wp2
      go_ret
      exact ⟨g, by rw [HZL.out]; rfl, by rw [HZL.out]; exact RN, hg, bb⟩
theorem num_ordz {x : Rat} : (ordz x.num 0 == 0) = decide (x = 0) := by
  by_cases h : x = 0
  · rw [h, decide_eq_true rfl]; rfl
  · rw [decide_eq_false h, beq_eq_false_iff_ne]
    intro e
    have hz : x.num ≠ 0 := fun k => h (Rat.num_eq_zero.1 k)
    rcases Int.lt_or_gt_of_ne hz with k | k
    · rw [ordz_lt k] at e; cases e
    · rw [ordz_gt k] at e; cases e
theorem mul_zero_iff {x y : Rat} : x * y = 0 ↔ x = 0 ∨ y = 0 := by
  constructor
  · intro h
    exact Rat.mul_eq_zero.1 h
  · rintro (rfl | rfl)
    · exact Rat.zero_mul _
    · exact Rat.mul_zero _
set_option maxHeartbeats 1600000 in
set_option maxRecDepth 100000 in
theorem vanishes_any (a0 a1 : Value) (x y : Rat) (b : Bool) (w : World) (h0 : IsQ w a0 x) (h1 : IsQ w a1 y) (hb : b = decide (x * y = 0)) :
    Calls Tryz.prog 32 #[a0, a1] w (RetV (.bool b) w) := by
  obtain ⟨s, hs⟩ : ∃ s, s = ordz x.num 0 := ⟨_, rfl⟩
  obtain ⟨t, ht⟩ : ∃ t, t = ordz y.num 0 := ⟨_, rfl⟩
  have HS := Lib.hid hs
  have HT := Lib.hid ht
  have HB := Lib.hid hb
  clear hb
  by_cases hx : x = 0
  · obtain ⟨u0, t0, rfl, s0, r0⟩ := h0
    obtain ⟨A0, c0, rfl, _⟩ := id s0
    obtain ⟨D0, e0, rfl, _⟩ := id r0
    obtain ⟨u1, t1, rfl, s1, r1⟩ := h1
    obtain ⟨A1, c1, rfl, _⟩ := id s1
    obtain ⟨D1, e1, rfl, _⟩ := id r1
    have H1 : Hid ((s == 0) = true) := by show _ = _; rw [hs, num_ordz, decide_eq_true hx]
    have HW : Hid (b = true) := by show _ = _; rw [HB.out]; exact decide_eq_true (mul_zero_iff.2 (.inl hx))
    clear hs ht hx
    go_enter Tryz.func32, Tryz.ntmps32
    go_upto_region 1 with (fail)
    obtain ⟨wx, hwx, bb, B0, B1, hsz⟩ := vars2 w 28 28 #[.bool (ngB (x).num), .slice A0 (digs 4294967296 (x).num.natAbs).length c0, .slice D0 (digs 4294967296 (x).den).length e0] #[.bool (ngB (y).num), .slice A1 (digs 4294967296 (y).num.natAbs).length c1, .slice D1 (digs 4294967296 (y).den).length e1]
    rw [hwx]
    clear hwx
    have k0s := s0.below bb
    have k0d := r0.below bb
    have k0z : IsZ wx (.agg #[.bool (ngB (x).num), .slice A0 (digs 4294967296 (x).num.natAbs).length c0]) (x).num := ⟨_, rfl, k0s⟩
    have k0 : IsQ wx (.agg #[.bool (ngB (x).num), .slice A0 (digs 4294967296 (x).num.natAbs).length c0, .slice D0 (digs 4294967296 (x).den).length e0]) (x) := ⟨_, _, rfl, k0s, k0d⟩
    have k1s := s1.below bb
    have k1d := r1.below bb
    have k1z : IsZ wx (.agg #[.bool (ngB (y).num), .slice A1 (digs 4294967296 (y).num.natAbs).length c1]) (y).num := ⟨_, rfl, k1s⟩
    have k1 : IsQ wx (.agg #[.bool (ngB (y).num), .slice A1 (digs 4294967296 (y).num.natAbs).length c1, .slice D1 (digs 4294967296 (y).den).length e1]) (y) := ⟨_, _, rfl, k1s, k1d⟩
    have hsz0 := bb.size
    have sB := bb.size
    refine flowp 9 [Pd.eq (.agg #[.bool (ngB (x).num), .slice A0 (digs 4294967296 (x).num.natAbs).length c0, .slice D0 (digs 4294967296 (x).den).length e0]), Pd.eq (.int .i64 s), Pd.eq (.bool true), Pd.eq (.bool true), Pd.any, Pd.any, Pd.any, Pd.eq (.bool true), Pd.eq (.bool true)] (by kernel_rfl) ?ob1 ?done1
    case ob1 =>
      refine And.intro (ob_load rfl (wt_none rfl) (ev_far rfl rfl) (fun w2 hb => run_loadAll Tryz.underlying28 rfl (by kernel_rfl) (B0.below hb)) (fun _ _ => rfl)) ?_
      refine And.intro (ob_call1 rfl Tryz.func44 (by kernel_rfl) (wt_none rfl) (ev_dep (j := 0) (by kernel_rfl) rfl rfl) (fun w2 u0 hb h0 => by obtain rfl := h0; exact (fsign0_any _ x s _ (k0.below hb) HS.out).mono fun e w3 h => RetV.pd h)) ?_
      refine And.intro (ob_bin rfl (wt_none rfl) (ev_dep (j := 1) (by kernel_rfl) rfl rfl) (ev_const _) (fun _ _ _ hx hy => ⟨.bool true, by rw [hx, hy, bin_eql_int, H1.out], rfl⟩)) ?_
      refine And.intro (ob_move rfl (wt_none rfl) (ev_dep (j := 2) (by kernel_rfl) rfl rfl) (fun _ _ h => h)) ?_
      refine And.intro (ob_not (wt_dep (c := true) (b := false) (g := 3) rfl (by kernel_rfl) rfl rfl rfl (by exact fun _ _ h => h)) (fun _ => trivial) rfl) ?_
      refine And.intro (ob_not (wt_dep (c := true) (b := false) (g := 3) rfl (by kernel_rfl) rfl rfl rfl (by exact fun _ _ h => h)) (fun _ => trivial) rfl) ?_
      refine And.intro (ob_not (wt_dep (c := true) (b := false) (g := 3) rfl (by kernel_rfl) rfl rfl rfl (by exact fun _ _ h => h)) (fun _ => trivial) rfl) ?_
      refine And.intro (ob_pick (b := true) rfl (wt_none rfl) (ev_dep (j := 3) (by kernel_rfl) rfl rfl) (ev_const _) (fun _ _ h => h)) ?_
      refine And.intro (ob_assign rfl (wt_none rfl) (ev_dep (j := 7) (by kernel_rfl) rfl rfl) (fun _ _ h => h)) ?_
      trivial
    case done1 =>
      refine fun w1 hb1 v0 h0 v1 h1 v2 h2 v3 h3 v4 h4 v5 h5 v6 h6 v7 h7 v8 h8 b hbf => ?_
      obtain rfl := h0; obtain rfl := h1; obtain rfl := h2; obtain rfl := h3; obtain rfl := h7; obtain rfl := h8
      clear h4
      clear h5
      clear h6
      simp only [Act.put, List.setIfInBounds_toArray, List.set_cons_zero, List.set_cons_succ] at hbf
      subst hbf
      replace B0 := B0.below hb1
      replace k0s := k0s.below hb1
      replace k0d := k0d.below hb1
      replace k0z := k0z.below hb1
      replace k0 := k0.below hb1
      replace B1 := B1.below hb1
      replace k1s := k1s.below hb1
      replace k1d := k1d.below hb1
      replace k1z := k1z.below hb1
      replace k1 := k1.below hb1
      replace bb := bb.trans (hb1.mono bb.size)
      have hsz1 := bb.size
      refine ops_done ?_
      go_wp2
      go_ret
      exact ⟨by rw [HW.out]; rfl, bb⟩
  · by_cases hy : y = 0
    · obtain ⟨u0, t0, rfl, s0, r0⟩ := h0
      obtain ⟨A0, c0, rfl, _⟩ := id s0
      obtain ⟨D0, e0, rfl, _⟩ := id r0
      obtain ⟨u1, t1, rfl, s1, r1⟩ := h1
      obtain ⟨A1, c1, rfl, _⟩ := id s1
      obtain ⟨D1, e1, rfl, _⟩ := id r1
      have H1 : Hid ((s == 0) = false) := by show _ = _; rw [hs, num_ordz, decide_eq_false hx]
      have H2 : Hid ((t == 0) = true) := by show _ = _; rw [ht, num_ordz, decide_eq_true hy]
      have HW : Hid (b = true) := by show _ = _; rw [HB.out]; exact decide_eq_true (mul_zero_iff.2 (.inr hy))
      clear hs ht hx hy
      go_enter Tryz.func32, Tryz.ntmps32
      go_upto_region 1 with (fail)
      obtain ⟨wx, hwx, bb, B0, B1, hsz⟩ := vars2 w 28 28 #[.bool (ngB (x).num), .slice A0 (digs 4294967296 (x).num.natAbs).length c0, .slice D0 (digs 4294967296 (x).den).length e0] #[.bool (ngB (y).num), .slice A1 (digs 4294967296 (y).num.natAbs).length c1, .slice D1 (digs 4294967296 (y).den).length e1]
      rw [hwx]
      clear hwx
      have k0s := s0.below bb
      have k0d := r0.below bb
      have k0z : IsZ wx (.agg #[.bool (ngB (x).num), .slice A0 (digs 4294967296 (x).num.natAbs).length c0]) (x).num := ⟨_, rfl, k0s⟩
      have k0 : IsQ wx (.agg #[.bool (ngB (x).num), .slice A0 (digs 4294967296 (x).num.natAbs).length c0, .slice D0 (digs 4294967296 (x).den).length e0]) (x) := ⟨_, _, rfl, k0s, k0d⟩
      have k1s := s1.below bb
      have k1d := r1.below bb
      have k1z : IsZ wx (.agg #[.bool (ngB (y).num), .slice A1 (digs 4294967296 (y).num.natAbs).length c1]) (y).num := ⟨_, rfl, k1s⟩
      have k1 : IsQ wx (.agg #[.bool (ngB (y).num), .slice A1 (digs 4294967296 (y).num.natAbs).length c1, .slice D1 (digs 4294967296 (y).den).length e1]) (y) := ⟨_, _, rfl, k1s, k1d⟩
      have hsz0 := bb.size
      have sB := bb.size
      refine flowp 9 [Pd.eq (.agg #[.bool (ngB (x).num), .slice A0 (digs 4294967296 (x).num.natAbs).length c0, .slice D0 (digs 4294967296 (x).den).length e0]), Pd.eq (.int .i64 s), Pd.eq (.bool false), Pd.eq (.bool false), Pd.eq (.agg #[.bool (ngB (y).num), .slice A1 (digs 4294967296 (y).num.natAbs).length c1, .slice D1 (digs 4294967296 (y).den).length e1]), Pd.eq (.int .i64 t), Pd.eq (.bool true), Pd.eq (.bool true), Pd.eq (.bool true)] (by kernel_rfl) ?ob2 ?done2
      case ob2 =>
        refine And.intro (ob_load rfl (wt_none rfl) (ev_far rfl rfl) (fun w2 hb => run_loadAll Tryz.underlying28 rfl (by kernel_rfl) (B0.below hb)) (fun _ _ => rfl)) ?_
        refine And.intro (ob_call1 rfl Tryz.func44 (by kernel_rfl) (wt_none rfl) (ev_dep (j := 0) (by kernel_rfl) rfl rfl) (fun w2 u0 hb h0 => by obtain rfl := h0; exact (fsign0_any _ x s _ (k0.below hb) HS.out).mono fun e w3 h => RetV.pd h)) ?_
        refine And.intro (ob_bin rfl (wt_none rfl) (ev_dep (j := 1) (by kernel_rfl) rfl rfl) (ev_const _) (fun _ _ _ hx hy => ⟨.bool false, by rw [hx, hy, bin_eql_int, H1.out], rfl⟩)) ?_
        refine And.intro (ob_move rfl (wt_none rfl) (ev_dep (j := 2) (by kernel_rfl) rfl rfl) (fun _ _ h => h)) ?_
        refine And.intro (ob_load rfl (wt_dep (c := false) (b := false) (g := 3) rfl (by kernel_rfl) rfl rfl rfl (by exact fun _ _ h => h)) (ev_far rfl rfl) (fun w2 hb => run_loadAll Tryz.underlying28 rfl (by kernel_rfl) (B1.below hb)) (fun _ _ => rfl)) ?_
        refine And.intro (ob_call1 rfl Tryz.func44 (by kernel_rfl) (wt_dep (c := false) (b := false) (g := 3) rfl (by kernel_rfl) rfl rfl rfl (by exact fun _ _ h => h)) (ev_dep (j := 4) (by kernel_rfl) rfl rfl) (fun w2 u0 hb h0 => by obtain rfl := h0; exact (fsign0_any _ y t _ (k1.below hb) HT.out).mono fun e w3 h => RetV.pd h)) ?_
        refine And.intro (ob_bin rfl (wt_dep (c := false) (b := false) (g := 3) rfl (by kernel_rfl) rfl rfl rfl (by exact fun _ _ h => h)) (ev_dep (j := 5) (by kernel_rfl) rfl rfl) (ev_const _) (fun _ _ _ hx hy => ⟨.bool true, by rw [hx, hy, bin_eql_int, H2.out], rfl⟩)) ?_
        refine And.intro (ob_pick (b := false) rfl (wt_none rfl) (ev_dep (j := 3) (by kernel_rfl) rfl rfl) (ev_dep (j := 6) (by kernel_rfl) rfl rfl) (fun _ _ h => h)) ?_
        refine And.intro (ob_assign rfl (wt_none rfl) (ev_dep (j := 7) (by kernel_rfl) rfl rfl) (fun _ _ h => h)) ?_
        trivial
      case done2 =>
        refine fun w1 hb1 v0 h0 v1 h1 v2 h2 v3 h3 v4 h4 v5 h5 v6 h6 v7 h7 v8 h8 b hbf => ?_
        obtain rfl := h0; obtain rfl := h1; obtain rfl := h2; obtain rfl := h3; obtain rfl := h4; obtain rfl := h5; obtain rfl := h6; obtain rfl := h7; obtain rfl := h8
        simp only [Act.put, List.setIfInBounds_toArray, List.set_cons_zero, List.set_cons_succ] at hbf
        subst hbf
        replace B0 := B0.below hb1
        replace k0s := k0s.below hb1
        replace k0d := k0d.below hb1
        replace k0z := k0z.below hb1
        replace k0 := k0.below hb1
        replace B1 := B1.below hb1
        replace k1s := k1s.below hb1
        replace k1d := k1d.below hb1
        replace k1z := k1z.below hb1
        replace k1 := k1.below hb1
        replace bb := bb.trans (hb1.mono bb.size)
        have hsz1 := bb.size
        refine ops_done ?_
        go_wp2
        go_ret
        exact ⟨by rw [HW.out]; rfl, bb⟩
    · obtain ⟨u0, t0, rfl, s0, r0⟩ := h0
      obtain ⟨A0, c0, rfl, _⟩ := id s0
      obtain ⟨D0, e0, rfl, _⟩ := id r0
      obtain ⟨u1, t1, rfl, s1, r1⟩ := h1
      obtain ⟨A1, c1, rfl, _⟩ := id s1
      obtain ⟨D1, e1, rfl, _⟩ := id r1
      have H1 : Hid ((s == 0) = false) := by show _ = _; rw [hs, num_ordz, decide_eq_false hx]
      have H2 : Hid ((t == 0) = false) := by show _ = _; rw [ht, num_ordz, decide_eq_false hy]
      have HW : Hid (b = false) := by show _ = _; rw [HB.out]; exact decide_eq_false (fun h => by rcases mul_zero_iff.1 h with h | h; exact hx h; exact hy h)
      clear hs ht hx hy
      go_enter Tryz.func32, Tryz.ntmps32
      go_upto_region 1 with (fail)
      obtain ⟨wx, hwx, bb, B0, B1, hsz⟩ := vars2 w 28 28 #[.bool (ngB (x).num), .slice A0 (digs 4294967296 (x).num.natAbs).length c0, .slice D0 (digs 4294967296 (x).den).length e0] #[.bool (ngB (y).num), .slice A1 (digs 4294967296 (y).num.natAbs).length c1, .slice D1 (digs 4294967296 (y).den).length e1]
      rw [hwx]
      clear hwx
      have k0s := s0.below bb
      have k0d := r0.below bb
      have k0z : IsZ wx (.agg #[.bool (ngB (x).num), .slice A0 (digs 4294967296 (x).num.natAbs).length c0]) (x).num := ⟨_, rfl, k0s⟩
      have k0 : IsQ wx (.agg #[.bool (ngB (x).num), .slice A0 (digs 4294967296 (x).num.natAbs).length c0, .slice D0 (digs 4294967296 (x).den).length e0]) (x) := ⟨_, _, rfl, k0s, k0d⟩
      have k1s := s1.below bb
      have k1d := r1.below bb
      have k1z : IsZ wx (.agg #[.bool (ngB (y).num), .slice A1 (digs 4294967296 (y).num.natAbs).length c1]) (y).num := ⟨_, rfl, k1s⟩
      have k1 : IsQ wx (.agg #[.bool (ngB (y).num), .slice A1 (digs 4294967296 (y).num.natAbs).length c1, .slice D1 (digs 4294967296 (y).den).length e1]) (y) := ⟨_, _, rfl, k1s, k1d⟩
      have hsz0 := bb.size
      have sB := bb.size
      refine flowp 9 [Pd.eq (.agg #[.bool (ngB (x).num), .slice A0 (digs 4294967296 (x).num.natAbs).length c0, .slice D0 (digs 4294967296 (x).den).length e0]), Pd.eq (.int .i64 s), Pd.eq (.bool false), Pd.eq (.bool false), Pd.eq (.agg #[.bool (ngB (y).num), .slice A1 (digs 4294967296 (y).num.natAbs).length c1, .slice D1 (digs 4294967296 (y).den).length e1]), Pd.eq (.int .i64 t), Pd.eq (.bool false), Pd.eq (.bool false), Pd.eq (.bool false)] (by kernel_rfl) ?ob3 ?done3
      case ob3 =>
        refine And.intro (ob_load rfl (wt_none rfl) (ev_far rfl rfl) (fun w2 hb => run_loadAll Tryz.underlying28 rfl (by kernel_rfl) (B0.below hb)) (fun _ _ => rfl)) ?_
        refine And.intro (ob_call1 rfl Tryz.func44 (by kernel_rfl) (wt_none rfl) (ev_dep (j := 0) (by kernel_rfl) rfl rfl) (fun w2 u0 hb h0 => by obtain rfl := h0; exact (fsign0_any _ x s _ (k0.below hb) HS.out).mono fun e w3 h => RetV.pd h)) ?_
        refine And.intro (ob_bin rfl (wt_none rfl) (ev_dep (j := 1) (by kernel_rfl) rfl rfl) (ev_const _) (fun _ _ _ hx hy => ⟨.bool false, by rw [hx, hy, bin_eql_int, H1.out], rfl⟩)) ?_
        refine And.intro (ob_move rfl (wt_none rfl) (ev_dep (j := 2) (by kernel_rfl) rfl rfl) (fun _ _ h => h)) ?_
        refine And.intro (ob_load rfl (wt_dep (c := false) (b := false) (g := 3) rfl (by kernel_rfl) rfl rfl rfl (by exact fun _ _ h => h)) (ev_far rfl rfl) (fun w2 hb => run_loadAll Tryz.underlying28 rfl (by kernel_rfl) (B1.below hb)) (fun _ _ => rfl)) ?_
        refine And.intro (ob_call1 rfl Tryz.func44 (by kernel_rfl) (wt_dep (c := false) (b := false) (g := 3) rfl (by kernel_rfl) rfl rfl rfl (by exact fun _ _ h => h)) (ev_dep (j := 4) (by kernel_rfl) rfl rfl) (fun w2 u0 hb h0 => by obtain rfl := h0; exact (fsign0_any _ y t _ (k1.below hb) HT.out).mono fun e w3 h => RetV.pd h)) ?_
        refine And.intro (ob_bin rfl (wt_dep (c := false) (b := false) (g := 3) rfl (by kernel_rfl) rfl rfl rfl (by exact fun _ _ h => h)) (ev_dep (j := 5) (by kernel_rfl) rfl rfl) (ev_const _) (fun _ _ _ hx hy => ⟨.bool false, by rw [hx, hy, bin_eql_int, H2.out], rfl⟩)) ?_
        refine And.intro (ob_pick (b := false) rfl (wt_none rfl) (ev_dep (j := 3) (by kernel_rfl) rfl rfl) (ev_dep (j := 6) (by kernel_rfl) rfl rfl) (fun _ _ h => h)) ?_
        refine And.intro (ob_assign rfl (wt_none rfl) (ev_dep (j := 7) (by kernel_rfl) rfl rfl) (fun _ _ h => h)) ?_
        trivial
      case done3 =>
        refine fun w1 hb1 v0 h0 v1 h1 v2 h2 v3 h3 v4 h4 v5 h5 v6 h6 v7 h7 v8 h8 b hbf => ?_
        obtain rfl := h0; obtain rfl := h1; obtain rfl := h2; obtain rfl := h3; obtain rfl := h4; obtain rfl := h5; obtain rfl := h6; obtain rfl := h7; obtain rfl := h8
        simp only [Act.put, List.setIfInBounds_toArray, List.set_cons_zero, List.set_cons_succ] at hbf
        subst hbf
        replace B0 := B0.below hb1
        replace k0s := k0s.below hb1
        replace k0d := k0d.below hb1
        replace k0z := k0z.below hb1
        replace k0 := k0.below hb1
        replace B1 := B1.below hb1
        replace k1s := k1s.below hb1
        replace k1d := k1d.below hb1
        replace k1z := k1z.below hb1
        replace k1 := k1.below hb1
        replace bb := bb.trans (hb1.mono bb.size)
        have hsz1 := bb.size
        refine ops_done ?_
        go_wp2
        go_ret
        exact ⟨by rw [HW.out]; rfl, bb⟩
set_option maxHeartbeats 3200000 in
set_option maxRecDepth 100000 in
theorem fscale_any (a0 a1 : Value) (p : List Rat) (K : Rat) (w : World) (h0 : SlF .u64 4294967296 w a0 p) (h1 : IsQ w a1 K) (hl : p.length ≤ 8 ∧ (∀ x ∈ p, lenQ x 1) ∧ lenQ K 1) :
    Calls Tryz.prog 10 #[a0, a1] w (RetSl (scaleq p K) w) := by
  obtain ⟨u1, t1, rfl, s1, r1⟩ := h1
  obtain ⟨A1, c1, rfl, _⟩ := id s1
  obtain ⟨D1, e1, rfl, _⟩ := id r1
  have sl0 := h0
  obtain ⟨A0, c0, rfl, hc0, hm0⟩ := h0.shape
  unfold maxLen at hm0
  have HL := Lib.hid hl
  have lK : lenQ K 1 := hl.2.2
  have hl8 : p.length ≤ 8 := hl.1
  have HRL : Hid ((scaleq p K).length = p.length) := scaleq_len p K
  clear hl
  go_enter Tryz.func10, Tryz.ntmps10
  go_upto_region 1 with (fail)
  obtain ⟨wx, hwx, bb, B1, hsz⟩ := vars1 w 28 #[.bool (ngB (K).num), .slice A1 (digs 4294967296 (K).num.natAbs).length c1, .slice D1 (digs 4294967296 (K).den).length e1]
  rw [hwx]
  clear hwx
  have k1s := s1.below bb
  have k1d := r1.below bb
  have k1z : IsZ wx (.agg #[.bool (ngB (K).num), .slice A1 (digs 4294967296 (K).num.natAbs).length c1]) (K).num := ⟨_, rfl, k1s⟩
  have k1 : IsQ wx (.agg #[.bool (ngB (K).num), .slice A1 (digs 4294967296 (K).num.natAbs).length c1, .slice D1 (digs 4294967296 (K).den).length e1]) (K) := ⟨_, _, rfl, k1s, k1d⟩
  have hsz0 := bb.size
  go_wp2_with (at_make; refine wpList_make_q rfl _ _ rfl Tryz.underlying22 info_rat p.length rfl rfl (by omega) ?_; intro wm RN hbm)
  have hwg : w.heap.size ≤ wx.heap.size := bb.size
  have hlb3 := B1.lt
  replace B1 := B1.below hbm
  replace k1s := k1s.below hbm
  replace k1d := k1d.below hbm
  replace k1z := k1z.below hbm
  replace k1 := k1.below hbm
  replace bb := bb.trans (hbm.mono bb.size)
  have hsz1 := bb.size
  obtain ⟨g, hg⟩ : ∃ g, g = wx.heap.size := ⟨_, rfl⟩
  rw [← hg] at RN ⊢
  have hg_ : wx.heap.size ≤ g := by omega
  clear hg
  have hg := hg_
  clear hg_
  have hgw : w.heap.size ≤ g := by omega
  have RN0 : RowN wm g p.length ((scaleq p K).take 0) := RN
  clear RN
  go_wp2
  go_loopw [13] (fun v13 wr => ∃ k : Nat, k ≤ p.length ∧ RowN wr g p.length ((scaleq p K).take k) ∧ Blk wr (w.heap.size) 28 #[.bool (ngB (K).num), .slice A1 (digs 4294967296 (K).num.natAbs).length c1, .slice D1 (digs 4294967296 (K).den).length e1] ∧ Below w.heap.size w wr ∧ v13 = .int .i64 (k : Int)) (fun v13 _ => p.length - (intOf v13).toNat)
  case atStart => exact ⟨0, by omega, RN0, B1, bb, rfl⟩
  case round =>
    obtain ⟨k, hk, hR, hB3, hbw, rfl⟩ := hrel
    clear RN0 bb B1 k1s k1d k1z k1
    have RN := hR
    have bb := hbw
    clear hR hbw
    have B1 := hB3
    have k1s := s1.below bb
    have k1d := r1.below bb
    have k1z : IsZ wr (.agg #[.bool (ngB (K).num), .slice A1 (digs 4294967296 (K).num.natAbs).length c1]) (K).num := ⟨_, rfl, k1s⟩
    have k1 : IsQ wr (.agg #[.bool (ngB (K).num), .slice A1 (digs 4294967296 (K).num.natAbs).length c1, .slice D1 (digs 4294967296 (K).den).length e1]) (K) := ⟨_, _, rfl, k1s, k1d⟩
    have hlc3 := B1.lt
    clear hB3
    have hszr := bb.size
    have hgl := RN.lt
    by_cases hlt : k < p.length
    · obtain ⟨x, hq0_⟩ : ∃ x, p[k]? = some x := ⟨_, List.getElem?_eq_getElem hlt⟩
      obtain ⟨g0_, o0_, ue0, te0, hA0_, _, e00, e01, e02, es0, ed0⟩ := (sl0.below bb).at_ hq0_
      subst hA0_
      have HQ0 := Lib.hid hq0_
      clear hq0_
      obtain ⟨Ae0, ce0, rfl, _⟩ := id es0
      obtain ⟨De0, ee0, rfl, _⟩ := id ed0
      have ke0 : IsQ wr (.agg #[.bool (ngB x.num), .slice Ae0 (digs 4294967296 x.num.natAbs).length ce0, .slice De0 (digs 4294967296 x.den).length ee0]) x := ⟨_, _, rfl, es0, ed0⟩
      have lx : lenQ x 1 := HL.out.2.1 x (List.mem_of_getElem? HQ0.out)
      have HAT : Hid ((scaleq p K)[k]? = some (x * K)) := by show _ = _; rw [scaleq, List.getElem?_map, HQ0.out]; rfl
      have HTK : Hid ((scaleq p K).take (k + 1) = (scaleq p K).take k ++ [(x * K)]) := take_snoc HAT.out
      have HLK : Hid (k = ((scaleq p K).take k).length) := by show _ = _; rw [List.length_take, HRL.out]; omega
      have sB := bb.size
      go_upto_region 4 with (fail)
      have lt2_3 := Blk.lt B1
      refine flowp 5 [Pd.eq (.int .i64 (k : Int)), Pd.eq (.pointer (some ⟨g0_, o0_ + k * 3, none⟩)), Pd.eq (.agg #[.bool (ngB x.num), .slice Ae0 (digs 4294967296 x.num.natAbs).length ce0, .slice De0 (digs 4294967296 x.den).length ee0]), pn 28 #[.bool false, .slice none 0 0, .slice none 0 0] wr.heap.size, Pd.eq (.int .i64 (k : Int))] (by kernel_rfl) ?ob4 ?done4
      case ob4 =>
        refine And.intro (ob_move rfl (wt_none rfl) (ev_far rfl rfl) (fun _ _ h => h)) ?_
        refine And.intro (ob_indexAddr rfl (wt_none rfl) (ev_far rfl rfl) (ev_far rfl rfl) (fun _ _ _ hx hy => ⟨_, by rw [hx, hy]; exact index3 Tryz.underlying22 (by kernel_rfl) hlt _, rfl⟩)) ?_
        refine And.intro (ob_load rfl (wt_none rfl) (ev_dep (j := 1) (by kernel_rfl) rfl rfl) (fun w2 hb => load3 Tryz.underlying28 rfl (by kernel_rfl) ((hb.cell (World.block_lt_of_cell? wr _ e00)).trans e00) ((hb.cell (World.block_lt_of_cell? wr _ e01)).trans e01) ((hb.cell (World.block_lt_of_cell? wr _ e02)).trans e02)) (fun _ _ => rfl)) ?_
        refine And.intro (ob_alloc (z := .agg #[.bool false, .slice none 0 0, .slice none 0 0]) rfl rfl (fun _ => by kernel_rfl) (fun _ _ hB h => ⟨_, rfl, hB, h⟩)) ?_
        refine And.intro (ob_assign rfl (wt_none rfl) (ev_dep (j := 0) (by kernel_rfl) rfl rfl) (fun _ _ h => h)) ?_
        trivial
      case done4 =>
        refine fun w3 hb3 v0 h0 v1 h1 v2 h2 v3 h3 d3 v4 h4 b hbf => ?_
        obtain rfl := h0; obtain rfl := h1; obtain rfl := h2; obtain rfl := h4
        obtain ⟨g4_3, rfl, hg3, B3⟩ := h3
        simp only [Act.put, List.setIfInBounds_toArray, List.set_cons_zero, List.set_cons_succ] at hbf
        subst hbf
        replace B1 := B1.below hb3
        replace k1s := k1s.below hb3
        replace k1d := k1d.below hb3
        replace k1z := k1z.below hb3
        replace k1 := k1.below hb3
        replace RN := RN.below hb3
        replace es0 := es0.below hb3
        replace ed0 := ed0.below hb3
        replace bb := bb.trans (hb3.mono bb.size)
        have hsz3 := bb.size
        have BA7 := B3
        have q2 := es0
        have d2 := ed0
        refine ops_store (i := 5) rfl rfl rfl rfl rfl rfl (cells := [.bool (ngB (x).num), .slice Ae0 (digs 4294967296 (x).num.natAbs).length ce0, .slice De0 (digs 4294967296 (x).den).length ee0]) rfl BA7 rfl (by kernel_rfl) (one3 rfl rfl rfl) fun w4 hg4 BN4 => ?_
        replace q2 := off q2 BA7 no_ints3 hg4
        replace d2 := off d2 BA7 no_ints3 hg4
        replace RN := RowN.offb RN BA7 no_ints3 hg4 (by omega)
        replace k1s := off k1s BA7 no_ints3 hg4
        replace k1d := off k1d BA7 no_ints3 hg4
        replace k1z : IsZ w4 (.agg #[.bool (ngB (K).num), .slice A1 (digs 4294967296 (K).num.natAbs).length c1]) ((K).num) := ⟨_, rfl, k1s⟩
        replace k1 : IsQ w4 (.agg #[.bool (ngB (K).num), .slice A1 (digs 4294967296 (K).num.natAbs).length c1, .slice D1 (digs 4294967296 (K).den).length e1]) (K) := ⟨_, _, rfl, k1s, k1d⟩
        replace B1 := B1.grown hg4 (by omega)
        replace bb := bb.trans ((Below.refl _ _).grown hg4 bb.size (fun g hg => by injection hg with hg; omega))
        have hsz4 := bb.size
        have Be0 : Blk w4 (g4_3) _ _ := BN4
        have ke0s := q2
        have ke0d := d2
        have ke0z : IsZ w4 (.agg #[.bool (ngB (x).num), .slice Ae0 (digs 4294967296 (x).num.natAbs).length ce0]) ((x).num) := ⟨_, rfl, ke0s⟩
        have ke0 : IsQ w4 (.agg #[.bool (ngB (x).num), .slice Ae0 (digs 4294967296 (x).num.natAbs).length ce0, .slice De0 (digs 4294967296 (x).den).length ee0]) (x) := ⟨_, _, rfl, ke0s, ke0d⟩
        refine ops_done ?_
        have hle := Be0.lt
        have hneE : g ≠ g4_3 := by omega
        have sB := bb.size
        go_upto_region 5 with (fail)
        refine flowp 6 [Pd.eq (.slice (some ⟨g, 0, none⟩) p.length p.length), Pd.eq (.int .i64 (k : Int)), Pd.eq (.agg #[.bool (ngB (x).num), .slice Ae0 (digs 4294967296 (x).num.natAbs).length ce0, .slice De0 (digs 4294967296 (x).den).length ee0]), Pd.eq (.agg #[.bool (ngB (K).num), .slice A1 (digs 4294967296 (K).num.natAbs).length c1, .slice D1 (digs 4294967296 (K).den).length e1]), pq ((x * K)) w4.heap.size, Pd.eq (.pointer (some ⟨g, 0 + k * 3, none⟩))] (by kernel_rfl) ?ob5 ?done5
        case ob5 =>
          refine And.intro (ob_move rfl (wt_none rfl) (ev_far rfl rfl) (fun _ _ h => h)) ?_
          refine And.intro (ob_move rfl (wt_none rfl) (ev_far rfl rfl) (fun _ _ h => h)) ?_
          refine And.intro (ob_load rfl (wt_none rfl) (ev_far rfl rfl) (fun w2 hb => run_loadAll Tryz.underlying28 rfl (by kernel_rfl) (Be0.below hb)) (fun _ _ => rfl)) ?_
          refine And.intro (ob_load rfl (wt_none rfl) (ev_far rfl rfl) (fun w2 hb => run_loadAll Tryz.underlying28 rfl (by kernel_rfl) (B1.below hb)) (fun _ _ => rfl)) ?_
          refine And.intro (ob_call2 rfl Tryz.func35 (by kernel_rfl) (wt_none rfl) (ev_dep (j := 2) (by kernel_rfl) rfl rfl) (ev_dep (j := 3) (by kernel_rfl) rfl rfl) (fun w2 u0 u1 hb h0 h1 => by obtain rfl := h0; obtain rfl := h1; exact (mul8_any _ x _ K _ (ke0.below hb) (k1.below hb) (lx.mono (by decide)) (lK.mono (by decide))).mono fun e w3 h => RetQ.pd h hb.size)) ?_
          refine And.intro (ob_indexAddr rfl (wt_none rfl) (ev_dep (j := 0) (by kernel_rfl) rfl rfl) (ev_dep (j := 1) (by kernel_rfl) rfl rfl) (fun _ _ _ hx hy => ⟨_, by rw [hx, hy]; exact index3 (k := k) Tryz.underlying22 (by kernel_rfl) hlt _, rfl⟩)) ?_
          trivial
        case done5 =>
          refine fun w5 hb5 v0 h0 v1 h1 v2 h2 v3 h3 v4 h4 v5 h5 b hbf => ?_
          obtain rfl := h0; obtain rfl := h1; obtain rfl := h2; obtain rfl := h3; obtain rfl := h5
          obtain ⟨q4, f4⟩ := h4
          simp only [Act.put, List.setIfInBounds_toArray, List.set_cons_zero, List.set_cons_succ] at hbf
          subst hbf
          replace B1 := B1.below hb5
          replace k1s := k1s.below hb5
          replace k1d := k1d.below hb5
          replace k1z := k1z.below hb5
          replace k1 := k1.below hb5
          replace Be0 := Be0.below hb5
          replace ke0s := ke0s.below hb5
          replace ke0d := ke0d.below hb5
          replace ke0z := ke0z.below hb5
          replace ke0 := ke0.below hb5
          replace RN := RN.below hb5
          replace bb := bb.trans (hb5.mono bb.size)
          have hsz5 := bb.size
          have s_4 := sB
          obtain ⟨u4, t4, rfl, q4, d4⟩ := q4
          obtain ⟨A9, c9, rfl, _⟩ := id q4
          obtain ⟨D9, e9, rfl, _⟩ := id d4
          refine ops_store_q (j := 6) rfl rfl rfl rfl (g := g) (i := k) (q := (x * K)) rfl rfl (by kernel_rfl) RN hlt q4 d4 fun w6 hg6 hP6 => ?_
          replace k1s := RN.keep hg6 k1s
          replace k1d := RN.keep hg6 k1d
          replace k1z : IsZ w6 (.agg #[.bool (ngB (K).num), .slice A1 (digs 4294967296 (K).num.natAbs).length c1]) ((K).num) := ⟨_, rfl, k1s⟩
          replace k1 : IsQ w6 (.agg #[.bool (ngB (K).num), .slice A1 (digs 4294967296 (K).num.natAbs).length c1, .slice D1 (digs 4294967296 (K).den).length e1]) (K) := ⟨_, _, rfl, k1s, k1d⟩
          replace B1 := B1.grown hg6 (by omega)
          replace ke0s := RN.keep hg6 ke0s
          replace ke0d := RN.keep hg6 ke0d
          replace ke0z : IsZ w6 (.agg #[.bool (ngB (x).num), .slice Ae0 (digs 4294967296 (x).num.natAbs).length ce0]) ((x).num) := ⟨_, rfl, ke0s⟩
          replace ke0 : IsQ w6 (.agg #[.bool (ngB (x).num), .slice Ae0 (digs 4294967296 (x).num.natAbs).length ce0, .slice De0 (digs 4294967296 (x).den).length ee0]) (x) := ⟨_, _, rfl, ke0s, ke0d⟩
          replace Be0 := Be0.grown hg6 (by omega)
          replace bb := bb.trans ((Below.refl _ _).grown hg6 bb.size (fun g hg => by injection hg with hg; omega))
          have hsz6 := bb.size
          replace RN := hP6.1 HLK.out
          clear hP6
          refine ops_done ?_
          rw [← HTK.out] at RN
          have hsk : p.length - (k + 1) < p.length - k := by omega
          go_wp2
          go_roundw
          case rel => exact ⟨k + 1, by omega, RN, B1, bb, by go_num⟩
          case measure => simp [intOf]; omega
    · rw [List.take_of_length_le (by rw [HRL.out]; omega)] at RN
      have hS := RN.sl HRL.out (by omega)
      clear RN
      go_wp2
      go_ret
      exact ⟨_, rfl, hS, bb⟩
set_option maxHeartbeats 1600000 in
set_option maxRecDepth 100000 in
theorem fdot_no (a0 a1 : Value) (p q : List Rat) (w : World) (h0 : SlF .u64 4294967296 w a0 p) (h1 : SlF .u64 4294967296 w a1 q) (he : p.length ≠ q.length) :
    Calls Tryz.prog 16 #[a0, a1] w (RetQN 8 w) := by
  have sl0 := h0
  obtain ⟨A0, c0, rfl, hc0, hm0⟩ := h0.shape
  unfold maxLen at hm0
  have sl1 := h1
  obtain ⟨A1, c1, rfl, hc1, hm1⟩ := h1.shape
  unfold maxLen at hm1
  have HNE : Hid ((((p.length : Nat) : Int) != ((q.length : Nat) : Int)) = true) := by show _ = _; rw [bne_iff_ne]; omega
  clear he
  go_enter Tryz.func16, Tryz.ntmps16
  go_upto_region 1 with (fail)
  obtain ⟨wx, hwx, bb, BR0, hsz⟩ := vars1 w 28 #[.bool false, .slice none 0 0, .slice none 0 0]
  rw [hwx]
  clear hwx
  have hsz0 := bb.size
  have sB := bb.size
  refine flowp 5 [Pd.eq (.slice A0 p.length c0), Pd.eq (.int .i64 ((p.length : Nat) : Int)), Pd.eq (.slice A1 q.length c1), Pd.eq (.int .i64 ((q.length : Nat) : Int)), Pd.eq (.bool true)] (by kernel_rfl) ?ob6 ?done6
  case ob6 =>
    refine And.intro (ob_move rfl (wt_none rfl) (ev_far rfl rfl) (fun _ _ h => h)) ?_
    refine And.intro (ob_len rfl (wt_none rfl) (ev_dep (j := 0) (by kernel_rfl) rfl rfl) (fun _ _ hx => ⟨_, by rw [hx]; exact len_slice Tryz.underlying22 _ _ _ _, rfl⟩)) ?_
    refine And.intro (ob_move rfl (wt_none rfl) (ev_far rfl rfl) (fun _ _ h => h)) ?_
    refine And.intro (ob_len rfl (wt_none rfl) (ev_dep (j := 2) (by kernel_rfl) rfl rfl) (fun _ _ hx => ⟨_, by rw [hx]; exact len_slice Tryz.underlying22 _ _ _ _, rfl⟩)) ?_
    refine And.intro (ob_bin rfl (wt_none rfl) (ev_dep (j := 1) (by kernel_rfl) rfl rfl) (ev_dep (j := 3) (by kernel_rfl) rfl rfl) (fun _ _ _ hx hy => ⟨.bool true, by rw [hx, hy, bin_neq_int, HNE.out], rfl⟩)) ?_
    trivial
  case done6 =>
    refine fun w1 hb1 v0 h0 v1 h1 v2 h2 v3 h3 v4 h4 b hbf => ?_
    obtain rfl := h0; obtain rfl := h1; obtain rfl := h2; obtain rfl := h3; obtain rfl := h4
    simp only [Act.put, List.setIfInBounds_toArray, List.set_cons_zero, List.set_cons_succ] at hbf
    subst hbf
    replace BR0 := BR0.below hb1
    replace bb := bb.trans (hb1.mono bb.size)
    have hsz1 := bb.size
    refine ops_done ?_
    have sB := bb.size
    go_upto_region 2 with (fail)
    refine flowp 1 [Pd.eq (.agg #[.bool false, .slice none 0 0, .slice none 0 0])] (by kernel_rfl) ?ob7 ?done7
    case ob7 =>
      refine And.intro (ob_build0 (v := .agg #[.bool false, .slice none 0 0, .slice none 0 0]) rfl (wt_none rfl) (fun _ => by kernel_rfl) (fun _ => rfl)) ?_
      trivial
    case done7 =>
      refine fun w2 hb2 v0 h0 b hbf => ?_
      obtain rfl := h0
      simp only [Act.put, List.setIfInBounds_toArray, List.set_cons_zero, List.set_cons_succ] at hbf
      subst hbf
      replace BR0 := BR0.below hb2
      replace bb := bb.trans (hb2.mono bb.size)
      have hsz2 := bb.size
      refine ops_store (i := 1) rfl rfl rfl rfl rfl rfl (cells := [.bool false, .slice none 0 0, .slice none 0 0]) rfl BR0 rfl (by kernel_rfl) (one3 rfl rfl rfl) fun w9 hg9 B9 => ?_
      have bb9 := bb.trans ((Below.refl _ _).grown hg9 bb.size (fun g hg => by injection hg with hg; omega))
      obtain ⟨C0, C1, C2, _, _, _⟩ := three B9
      refine ops_assign (i := 2) (.int .i64 8) rfl rfl rfl rfl rfl fun b hbf => ?_
      simp only [Act.put, List.setIfInBounds_toArray, List.set_cons_zero, List.set_cons_succ] at hbf
      subst hbf
      refine ops_done ?_
      go_wp2
      exact bodyPost_ret (v := .tuple #[.agg #[.bool false, .slice none 0 0, .slice none 0 0], .int .i64 8]) (by simp [results, Tryz.results16, go_sem, C0, C1, C2]) rfl ⟨rfl, bb9⟩
set_option maxHeartbeats 3200000 in
set_option maxRecDepth 100000 in
theorem fdot_ok (a0 a1 : Value) (p q : List Rat) (w : World) (h0 : SlF .u64 4294967296 w a0 p) (h1 : SlF .u64 4294967296 w a1 q) (he : p.length = q.length) (hl : p.length ≤ 8 ∧ (∀ x ∈ p, lenQ x 3) ∧ ∀ x ∈ q, lenQ x 3) :
    Calls Tryz.prog 16 #[a0, a1] w (RetQE (dotq p q) 0 w) := by
  have sl0 := h0
  obtain ⟨A0, c0, rfl, hc0, hm0⟩ := h0.shape
  unfold maxLen at hm0
  have sl1 := h1
  obtain ⟨A1, c1, rfl, hc1, hm1⟩ := h1.shape
  unfold maxLen at hm1
  have HNE : Hid ((((p.length : Nat) : Int) != ((q.length : Nat) : Int)) = false) := by show _ = _; rw [bne_eq_false_iff_eq]; omega
  have HE := Lib.hid he
  have HLE := Lib.hid hl
  have hl8 : p.length ≤ 8 := hl.1
  clear he hl
  go_enter Tryz.func16, Tryz.ntmps16
  go_upto_region 1 with (fail)
  obtain ⟨wx, hwx, bb, BR0, hsz⟩ := vars1 w 28 #[.bool false, .slice none 0 0, .slice none 0 0]
  rw [hwx]
  clear hwx
  have hsz0 := bb.size
  have sB := bb.size
  refine flowp 5 [Pd.eq (.slice A0 p.length c0), Pd.eq (.int .i64 ((p.length : Nat) : Int)), Pd.eq (.slice A1 q.length c1), Pd.eq (.int .i64 ((q.length : Nat) : Int)), Pd.eq (.bool false)] (by kernel_rfl) ?ob8 ?done8
  case ob8 =>
    refine And.intro (ob_move rfl (wt_none rfl) (ev_far rfl rfl) (fun _ _ h => h)) ?_
    refine And.intro (ob_len rfl (wt_none rfl) (ev_dep (j := 0) (by kernel_rfl) rfl rfl) (fun _ _ hx => ⟨_, by rw [hx]; exact len_slice Tryz.underlying22 _ _ _ _, rfl⟩)) ?_
    refine And.intro (ob_move rfl (wt_none rfl) (ev_far rfl rfl) (fun _ _ h => h)) ?_
    refine And.intro (ob_len rfl (wt_none rfl) (ev_dep (j := 2) (by kernel_rfl) rfl rfl) (fun _ _ hx => ⟨_, by rw [hx]; exact len_slice Tryz.underlying22 _ _ _ _, rfl⟩)) ?_
    refine And.intro (ob_bin rfl (wt_none rfl) (ev_dep (j := 1) (by kernel_rfl) rfl rfl) (ev_dep (j := 3) (by kernel_rfl) rfl rfl) (fun _ _ _ hx hy => ⟨.bool false, by rw [hx, hy, bin_neq_int, HNE.out], rfl⟩)) ?_
    trivial
  case done8 =>
    refine fun w1 hb1 v0 h0 v1 h1 v2 h2 v3 h3 v4 h4 b hbf => ?_
    obtain rfl := h0; obtain rfl := h1; obtain rfl := h2; obtain rfl := h3; obtain rfl := h4
    simp only [Act.put, List.setIfInBounds_toArray, List.set_cons_zero, List.set_cons_succ] at hbf
    subst hbf
    replace BR0 := BR0.below hb1
    replace bb := bb.trans (hb1.mono bb.size)
    have hsz1 := bb.size
    refine ops_done ?_
    have sB := bb.size
    go_upto_region 3 with (fail)
    have lt1_4 := Blk.lt BR0
    refine flowp 2 [pq ((0 : Rat)) w1.heap.size, pn 28 #[.bool false, .slice none 0 0, .slice none 0 0] w1.heap.size] (by kernel_rfl) ?ob9 ?done9
    case ob9 =>
      refine And.intro (ob_call1 rfl Tryz.func37 (by kernel_rfl) (wt_none rfl) (ev_const _) (fun w2 u0 hb h0 => by obtain rfl := h0; exact (RatV_of0 _).mono fun e w3 h => RetQ.pd h hb.size)) ?_
      refine And.intro (ob_alloc (z := .agg #[.bool false, .slice none 0 0, .slice none 0 0]) rfl rfl (fun _ => by kernel_rfl) (fun _ _ hB h => ⟨_, rfl, hB, h⟩)) ?_
      trivial
    case done9 =>
      refine fun w2 hb2 v0 h0 v1 h1 d1 b hbf => ?_
      obtain ⟨q0, f0⟩ := h0
      obtain ⟨g9_1, rfl, hg1, B1⟩ := h1
      simp only [Act.put, List.setIfInBounds_toArray, List.set_cons_zero, List.set_cons_succ] at hbf
      subst hbf
      replace BR0 := BR0.below hb2
      replace bb := bb.trans (hb2.mono bb.size)
      have hsz2 := bb.size
      have s_0 := sB
      have BA6 := B1
      obtain ⟨u0, t0, rfl, q0, d0⟩ := q0
      obtain ⟨A6, c6, rfl, _⟩ := id q0
      obtain ⟨D6, e6, rfl, _⟩ := id d0
      refine ops_store (i := 2) rfl rfl rfl rfl rfl rfl (cells := [.bool (ngB ((0 : Rat)).num), .slice A6 (digs 4294967296 ((0 : Rat)).num.natAbs).length c6, .slice D6 (digs 4294967296 ((0 : Rat)).den).length e6]) rfl BA6 rfl (by kernel_rfl) (one3 rfl rfl rfl) fun w3 hg3 BN3 => ?_
      replace q0 := off q0 BA6 no_ints3 hg3
      replace d0 := off d0 BA6 no_ints3 hg3
      replace BR0 := BR0.grown hg3 (by omega)
      replace bb := bb.trans ((Below.refl _ _).grown hg3 bb.size (fun g hg => by injection hg with hg; omega))
      have hsz3 := bb.size
      have B6 : Blk w3 (g9_1) _ _ := BN3
      have k6s := q0
      have k6d := d0
      have k6z : IsZ w3 (.agg #[.bool (ngB ((0 : Rat)).num), .slice A6 (digs 4294967296 ((0 : Rat)).num.natAbs).length c6]) (((0 : Rat)).num) := ⟨_, rfl, k6s⟩
      have k6 : IsQ w3 (.agg #[.bool (ngB ((0 : Rat)).num), .slice A6 (digs 4294967296 ((0 : Rat)).num.natAbs).length c6, .slice D6 (digs 4294967296 ((0 : Rat)).den).length e6]) ((0 : Rat)) := ⟨_, _, rfl, k6s, k6d⟩
      refine ops_done ?_
      go_wp2
      go_loopw [18] (fun v18 wr => ∃ k : Nat, k ≤ p.length ∧ HoldQ wr g9_1 (sumq ((prods p q).take k)) ∧ Blk wr w.heap.size 28 #[.bool false, .slice none 0 0, .slice none 0 0] ∧ Below w.heap.size w wr ∧ g9_1 < wr.heap.size ∧ v18 = .int .i64 (k : Int)) (fun v18 _ => p.length - (intOf v18).toNat)
      case atStart => exact ⟨0, by omega, ⟨_, _, B6, k6s, k6d⟩, BR0, bb, B6.lt, rfl⟩
      case round =>
        obtain ⟨k, hk, hH, hR, hbw, hGl, rfl⟩ := hrel
        clear B6 k6s k6d k6z k6 BR0 bb
        have BR0 := hR
        have bb := hbw
        obtain ⟨s, hs⟩ : ∃ s, s = sumq ((prods p q).take k) := ⟨_, rfl⟩
        rw [← hs] at hH
        have HS := Lib.hid hs
        clear hs hR hbw
        have ls : lenQ s 60 := by
          rw [HS.out]
          refine (lenQ_sumq (fun x hx => lenQ_prods HLE.out.2.1 HLE.out.2.2 x (List.mem_of_mem_take hx))).mono ?_
          rw [List.length_take]
          omega
        obtain ⟨u6, t6, B6, k6s, k6d⟩ := hH
        obtain ⟨A6, c6, rfl, _⟩ := id k6s
        obtain ⟨D6, e6, rfl, _⟩ := id k6d
        have k6z : IsZ wr (.agg #[.bool (ngB (s).num), .slice A6 (digs 4294967296 (s).num.natAbs).length c6]) (s).num := ⟨_, rfl, k6s⟩
        have k6 : IsQ wr (.agg #[.bool (ngB (s).num), .slice A6 (digs 4294967296 (s).num.natAbs).length c6, .slice D6 (digs 4294967296 (s).den).length e6]) (s) := ⟨_, _, rfl, k6s, k6d⟩
        have hszr := bb.size
        by_cases hlt : k < p.length
        · have hlt2 : k < q.length := by have := HE.out; omega
          obtain ⟨x, hq0_⟩ : ∃ x, p[k]? = some x := ⟨_, List.getElem?_eq_getElem hlt⟩
          obtain ⟨g0_, o0_, ue0, te0, hA0_, _, e00, e01, e02, es0, ed0⟩ := (sl0.below bb).at_ hq0_
          subst hA0_
          have HQ0 := Lib.hid hq0_
          clear hq0_
          obtain ⟨Ae0, ce0, rfl, _⟩ := id es0
          obtain ⟨De0, ee0, rfl, _⟩ := id ed0
          have ke0 : IsQ wr (.agg #[.bool (ngB x.num), .slice Ae0 (digs 4294967296 x.num.natAbs).length ce0, .slice De0 (digs 4294967296 x.den).length ee0]) x := ⟨_, _, rfl, es0, ed0⟩
          obtain ⟨y, hy⟩ : ∃ y, q[k]? = some y := ⟨_, List.getElem?_eq_getElem hlt2⟩
          have HY := Lib.hid hy
          have lx : lenQ x 3 := HLE.out.2.1 x (List.mem_of_getElem? HQ0.out)
          have ly : lenQ y 3 := HLE.out.2.2 y (List.mem_of_getElem? hy)
          have lxy : lenQ (x * y) 6 := lenQ_mul lx ly
          clear hy
          have hneq : q ≠ [] := List.length_pos_iff.1 (by omega)
          have sB := bb.size
          go_upto_region 6 with (fail)
          have lt4_4 := Blk.lt BR0
          have lt4_6 := Blk.lt B6
          refine flowp 5 [Pd.eq (.int .i64 (k : Int)), Pd.eq (.pointer (some ⟨g0_, o0_ + k * 3, none⟩)), Pd.eq (.agg #[.bool (ngB x.num), .slice Ae0 (digs 4294967296 x.num.natAbs).length ce0, .slice De0 (digs 4294967296 x.den).length ee0]), pn 28 #[.bool false, .slice none 0 0, .slice none 0 0] wr.heap.size, Pd.eq (.int .i64 (k : Int))] (by kernel_rfl) ?ob10 ?done10
          case ob10 =>
            refine And.intro (ob_move rfl (wt_none rfl) (ev_far rfl rfl) (fun _ _ h => h)) ?_
            refine And.intro (ob_indexAddr rfl (wt_none rfl) (ev_far rfl rfl) (ev_far rfl rfl) (fun _ _ _ hx hy => ⟨_, by rw [hx, hy]; exact index3 Tryz.underlying22 (by kernel_rfl) hlt _, rfl⟩)) ?_
            refine And.intro (ob_load rfl (wt_none rfl) (ev_dep (j := 1) (by kernel_rfl) rfl rfl) (fun w2 hb => load3 Tryz.underlying28 rfl (by kernel_rfl) ((hb.cell (World.block_lt_of_cell? wr _ e00)).trans e00) ((hb.cell (World.block_lt_of_cell? wr _ e01)).trans e01) ((hb.cell (World.block_lt_of_cell? wr _ e02)).trans e02)) (fun _ _ => rfl)) ?_
            refine And.intro (ob_alloc (z := .agg #[.bool false, .slice none 0 0, .slice none 0 0]) rfl rfl (fun _ => by kernel_rfl) (fun _ _ hB h => ⟨_, rfl, hB, h⟩)) ?_
            refine And.intro (ob_assign rfl (wt_none rfl) (ev_dep (j := 0) (by kernel_rfl) rfl rfl) (fun _ _ h => h)) ?_
            trivial
          case done10 =>
            refine fun w5 hb5 v0 h0 v1 h1 v2 h2 v3 h3 d3 v4 h4 b hbf => ?_
            obtain rfl := h0; obtain rfl := h1; obtain rfl := h2; obtain rfl := h4
            obtain ⟨g10_3, rfl, hg3, B3⟩ := h3
            simp only [Act.put, List.setIfInBounds_toArray, List.set_cons_zero, List.set_cons_succ] at hbf
            subst hbf
            replace BR0 := BR0.below hb5
            replace B6 := B6.below hb5
            replace k6s := k6s.below hb5
            replace k6d := k6d.below hb5
            replace k6z := k6z.below hb5
            replace k6 := k6.below hb5
            replace es0 := es0.below hb5
            replace ed0 := ed0.below hb5
            replace bb := bb.trans (hb5.mono bb.size)
            have hsz5 := bb.size
            have BA8 := B3
            have q2 := es0
            have d2 := ed0
            refine ops_store (i := 5) rfl rfl rfl rfl rfl rfl (cells := [.bool (ngB (x).num), .slice Ae0 (digs 4294967296 (x).num.natAbs).length ce0, .slice De0 (digs 4294967296 (x).den).length ee0]) rfl BA8 rfl (by kernel_rfl) (one3 rfl rfl rfl) fun w6 hg6 BN6 => ?_
            replace q2 := off q2 BA8 no_ints3 hg6
            replace d2 := off d2 BA8 no_ints3 hg6
            replace BR0 := BR0.grown hg6 (by omega)
            replace k6s := off k6s BA8 no_ints3 hg6
            replace k6d := off k6d BA8 no_ints3 hg6
            replace k6z : IsZ w6 (.agg #[.bool (ngB (s).num), .slice A6 (digs 4294967296 (s).num.natAbs).length c6]) ((s).num) := ⟨_, rfl, k6s⟩
            replace k6 : IsQ w6 (.agg #[.bool (ngB (s).num), .slice A6 (digs 4294967296 (s).num.natAbs).length c6, .slice D6 (digs 4294967296 (s).den).length e6]) (s) := ⟨_, _, rfl, k6s, k6d⟩
            replace B6 := B6.grown hg6 (by omega)
            replace bb := bb.trans ((Below.refl _ _).grown hg6 bb.size (fun g hg => by injection hg with hg; omega))
            have hsz6 := bb.size
            have Be0 : Blk w6 (g10_3) _ _ := BN6
            have ke0s := q2
            have ke0d := d2
            have ke0z : IsZ w6 (.agg #[.bool (ngB (x).num), .slice Ae0 (digs 4294967296 (x).num.natAbs).length ce0]) ((x).num) := ⟨_, rfl, ke0s⟩
            have ke0 : IsQ w6 (.agg #[.bool (ngB (x).num), .slice Ae0 (digs 4294967296 (x).num.natAbs).length ce0, .slice De0 (digs 4294967296 (x).den).length ee0]) (x) := ⟨_, _, rfl, ke0s, ke0d⟩
            refine ops_done ?_
            obtain ⟨g1_, o1_, cp1_, hA1_, _, _, _⟩ := sl1.place hneq
            injection hA1_ with e1_ _ e3_
            subst e1_
            subst e3_
            obtain ⟨uy, ty, hlty, zy0, zy1, zy2, zys, zyd⟩ := (sl1.below bb).at2 HY.out
            obtain ⟨Ay, cy, rfl, _⟩ := id zys
            obtain ⟨Dy, ey, rfl, _⟩ := id zyd
            have zy : IsQ w6 (.agg #[.bool (ngB (y).num), .slice Ay (digs 4294967296 (y).num.natAbs).length cy, .slice Dy (digs 4294967296 (y).den).length ey]) (y) := ⟨_, _, rfl, zys, zyd⟩
            by_cases hv : x * y = 0
            · have HV : Hid (true = decide (x * y = 0)) := (decide_eq_true hv).symm
              have HN : Hid (s = sumq ((prods p q).take (k + 1))) := by show _ = _; rw [take_snoc (show (prods p q)[k]? = some (x * y) from zip_at HQ0.out HY.out), sumq_snoc, hv, Rat.add_zero, HS.out]
              clear hv
              have sB := bb.size
              go_upto_region 7 with (fail)
              refine flow 7 [Pd.eq (.agg #[.bool (ngB (x).num), .slice Ae0 (digs 4294967296 (x).num.natAbs).length ce0, .slice De0 (digs 4294967296 (x).den).length ee0]), Pd.eq (.slice (some ⟨g1_, o1_, none⟩) q.length c1), Pd.eq (.int .i64 (k : Int)), Pd.eq (.pointer (some ⟨g1_, o1_ + k * 3, none⟩)), Pd.eq (.agg #[.bool (ngB (y).num), .slice Ay (digs 4294967296 (y).num.natAbs).length cy, .slice Dy (digs 4294967296 (y).den).length ey]), Pd.eq (.bool true), Pd.eq (.bool false)] (by kernel_rfl) (by kernel_rfl) ?ob11 ?done11
              case ob11 =>
                refine And.intro (ob_load rfl (wt_none rfl) (ev_far rfl rfl) (fun w2 hb => run_loadAll Tryz.underlying28 rfl (by kernel_rfl) (Be0.drew.below hb)) (fun _ _ => rfl)) ?_
                refine And.intro (ob_move rfl (wt_none rfl) (ev_far rfl rfl) (fun _ _ h => h)) ?_
                refine And.intro (ob_move rfl (wt_none rfl) (ev_far rfl rfl) (fun _ _ h => h)) ?_
                refine And.intro (ob_indexAddr rfl (wt_none rfl) (ev_dep (j := 1) (by kernel_rfl) rfl rfl) (ev_dep (j := 2) (by kernel_rfl) rfl rfl) (fun _ _ _ hx hy => ⟨_, by rw [hx, hy]; exact index3 (k := k) Tryz.underlying22 (by kernel_rfl) hlty _, rfl⟩)) ?_
                refine And.intro (ob_load rfl (wt_none rfl) (ev_dep (j := 3) (by kernel_rfl) rfl rfl) (fun w2 hb => load3 Tryz.underlying28 rfl (by kernel_rfl) ((hb.cell (World.block_lt_of_cell? w6 _ zy0)).trans zy0) ((hb.cell (World.block_lt_of_cell? w6 _ zy1)).trans zy1) ((hb.cell (World.block_lt_of_cell? w6 _ zy2)).trans zy2)) (fun _ _ => rfl)) ?_
                refine And.intro (ob_call2 rfl Tryz.func32 (by kernel_rfl) (wt_none rfl) (ev_dep (j := 0) (by kernel_rfl) rfl rfl) (ev_dep (j := 4) (by kernel_rfl) rfl rfl) (fun w2 u0 u1 hb h0 h1 => by obtain rfl := h0; obtain rfl := h1; exact (vanishes_any _ _ (x) (y) true _ (ke0.drew.below hb) (zy.drew.below hb) HV.out).mono fun e w3 h => RetV.pd h)) ?_
                refine And.intro (ob_un rfl (wt_none rfl) (ev_dep (j := 5) (by kernel_rfl) rfl rfl) (fun _ => un_not _ _) (fun _ => rfl)) ?_
                trivial
              case done11 =>
                refine fun w8 hb8 v0 h0 v1 h1 v2 h2 v3 h3 v4 h4 v5 h5 v6 h6 b hbf => ?_
                obtain rfl := h0; obtain rfl := h1; obtain rfl := h2; obtain rfl := h3; obtain rfl := h4; obtain rfl := h5; obtain rfl := h6
                simp only [Act.put, List.setIfInBounds_toArray, List.set_cons_zero, List.set_cons_succ] at hbf
                subst hbf
                replace BR0 := BR0.below hb8
                replace B6 := B6.below hb8
                replace k6s := k6s.below hb8
                replace k6d := k6d.below hb8
                replace k6z := k6z.below hb8
                replace k6 := k6.below hb8
                replace Be0 := Be0.below hb8
                replace ke0s := ke0s.below hb8
                replace ke0d := ke0d.below hb8
                replace ke0z := ke0z.below hb8
                replace ke0 := ke0.below hb8
                replace bb := bb.trans (hb8.mono bb.size)
                have hsz8 := bb.size
                refine any_done (by kernel_rfl) ?_
                have hsk : p.length - (k + 1) < p.length - k := by omega
                go_wp2
                go_roundw
                case rel => exact ⟨k + 1, by omega, by rw [← HN.out]; exact ⟨_, _, B6, k6s, k6d⟩, BR0, bb, B6.lt, by go_num⟩
                case measure => simp [intOf]; omega
            · have HV : Hid (false = decide (x * y = 0)) := (decide_eq_false hv).symm
              clear hv
              have sB := bb.size
              go_upto_region 7 with (fail)
              refine flow 7 [Pd.eq (.agg #[.bool (ngB (x).num), .slice Ae0 (digs 4294967296 (x).num.natAbs).length ce0, .slice De0 (digs 4294967296 (x).den).length ee0]), Pd.eq (.slice (some ⟨g1_, o1_, none⟩) q.length c1), Pd.eq (.int .i64 (k : Int)), Pd.eq (.pointer (some ⟨g1_, o1_ + k * 3, none⟩)), Pd.eq (.agg #[.bool (ngB (y).num), .slice Ay (digs 4294967296 (y).num.natAbs).length cy, .slice Dy (digs 4294967296 (y).den).length ey]), Pd.eq (.bool false), Pd.eq (.bool true)] (by kernel_rfl) (by kernel_rfl) ?ob12 ?done12
              case ob12 =>
                refine And.intro (ob_load rfl (wt_none rfl) (ev_far rfl rfl) (fun w2 hb => run_loadAll Tryz.underlying28 rfl (by kernel_rfl) (Be0.drew.below hb)) (fun _ _ => rfl)) ?_
                refine And.intro (ob_move rfl (wt_none rfl) (ev_far rfl rfl) (fun _ _ h => h)) ?_
                refine And.intro (ob_move rfl (wt_none rfl) (ev_far rfl rfl) (fun _ _ h => h)) ?_
                refine And.intro (ob_indexAddr rfl (wt_none rfl) (ev_dep (j := 1) (by kernel_rfl) rfl rfl) (ev_dep (j := 2) (by kernel_rfl) rfl rfl) (fun _ _ _ hx hy => ⟨_, by rw [hx, hy]; exact index3 (k := k) Tryz.underlying22 (by kernel_rfl) hlty _, rfl⟩)) ?_
                refine And.intro (ob_load rfl (wt_none rfl) (ev_dep (j := 3) (by kernel_rfl) rfl rfl) (fun w2 hb => load3 Tryz.underlying28 rfl (by kernel_rfl) ((hb.cell (World.block_lt_of_cell? w6 _ zy0)).trans zy0) ((hb.cell (World.block_lt_of_cell? w6 _ zy1)).trans zy1) ((hb.cell (World.block_lt_of_cell? w6 _ zy2)).trans zy2)) (fun _ _ => rfl)) ?_
                refine And.intro (ob_call2 rfl Tryz.func32 (by kernel_rfl) (wt_none rfl) (ev_dep (j := 0) (by kernel_rfl) rfl rfl) (ev_dep (j := 4) (by kernel_rfl) rfl rfl) (fun w2 u0 u1 hb h0 h1 => by obtain rfl := h0; obtain rfl := h1; exact (vanishes_any _ _ (x) (y) false _ (ke0.drew.below hb) (zy.drew.below hb) HV.out).mono fun e w3 h => RetV.pd h)) ?_
                refine And.intro (ob_un rfl (wt_none rfl) (ev_dep (j := 5) (by kernel_rfl) rfl rfl) (fun _ => un_not _ _) (fun _ => rfl)) ?_
                trivial
              case done12 =>
                refine fun w8 hb8 v0 h0 v1 h1 v2 h2 v3 h3 v4 h4 v5 h5 v6 h6 b hbf => ?_
                obtain rfl := h0; obtain rfl := h1; obtain rfl := h2; obtain rfl := h3; obtain rfl := h4; obtain rfl := h5; obtain rfl := h6
                simp only [Act.put, List.setIfInBounds_toArray, List.set_cons_zero, List.set_cons_succ] at hbf
                subst hbf
                replace BR0 := BR0.below hb8
                replace B6 := B6.below hb8
                replace k6s := k6s.below hb8
                replace k6d := k6d.below hb8
                replace k6z := k6z.below hb8
                replace k6 := k6.below hb8
                replace Be0 := Be0.below hb8
                replace ke0s := ke0s.below hb8
                replace ke0d := ke0d.below hb8
                replace ke0z := ke0z.below hb8
                replace ke0 := ke0.below hb8
                replace bb := bb.trans (hb8.mono bb.size)
                have hsz8 := bb.size
                refine any_done (by kernel_rfl) ?_
                clear zy zy0 zy1 zy2 zys zyd
                obtain ⟨ub, tb, hltb, zb0, zb1, zb2, zbs, zbd⟩ := (sl1.below bb).at2 HY.out
                obtain ⟨Ab, cb, rfl, _⟩ := id zbs
                obtain ⟨Db, eb, rfl, _⟩ := id zbd
                have zb : IsQ w8 (.agg #[.bool (ngB (y).num), .slice Ab (digs 4294967296 (y).num.natAbs).length cb, .slice Db (digs 4294967296 (y).den).length eb]) (y) := ⟨_, _, rfl, zbs, zbd⟩
                have sB := bb.size
                go_upto_region 8 with (fail)
                refine flow 8 [Pd.eq (.agg #[.bool (ngB (s).num), .slice A6 (digs 4294967296 (s).num.natAbs).length c6, .slice D6 (digs 4294967296 (s).den).length e6]), Pd.eq (.agg #[.bool (ngB (x).num), .slice Ae0 (digs 4294967296 (x).num.natAbs).length ce0, .slice De0 (digs 4294967296 (x).den).length ee0]), Pd.eq (.slice (some ⟨g1_, o1_, none⟩) q.length c1), Pd.eq (.int .i64 (k : Int)), Pd.eq (.pointer (some ⟨g1_, o1_ + k * 3, none⟩)), Pd.eq (.agg #[.bool (ngB (y).num), .slice Ab (digs 4294967296 (y).num.natAbs).length cb, .slice Db (digs 4294967296 (y).den).length eb]), pqn (x * y), pq ((s + x * y)) w8.heap.size] (by kernel_rfl) (by kernel_rfl) ?ob13 ?done13
                case ob13 =>
                  refine And.intro (ob_load rfl (wt_none rfl) (ev_far rfl rfl) (fun w2 hb => run_loadAll Tryz.underlying28 rfl (by kernel_rfl) (B6.drew.below hb)) (fun _ _ => rfl)) ?_
                  refine And.intro (ob_load rfl (wt_none rfl) (ev_far rfl rfl) (fun w2 hb => run_loadAll Tryz.underlying28 rfl (by kernel_rfl) (Be0.drew.below hb)) (fun _ _ => rfl)) ?_
                  refine And.intro (ob_move rfl (wt_none rfl) (ev_far rfl rfl) (fun _ _ h => h)) ?_
                  refine And.intro (ob_move rfl (wt_none rfl) (ev_far rfl rfl) (fun _ _ h => h)) ?_
                  refine And.intro (ob_indexAddr rfl (wt_none rfl) (ev_dep (j := 2) (by kernel_rfl) rfl rfl) (ev_dep (j := 3) (by kernel_rfl) rfl rfl) (fun _ _ _ hx hy => ⟨_, by rw [hx, hy]; exact index3 (k := k) Tryz.underlying22 (by kernel_rfl) hltb _, rfl⟩)) ?_
                  refine And.intro (ob_load rfl (wt_none rfl) (ev_dep (j := 4) (by kernel_rfl) rfl rfl) (fun w2 hb => load3 Tryz.underlying28 rfl (by kernel_rfl) ((hb.cell (World.block_lt_of_cell? w8 _ zb0)).trans zb0) ((hb.cell (World.block_lt_of_cell? w8 _ zb1)).trans zb1) ((hb.cell (World.block_lt_of_cell? w8 _ zb2)).trans zb2)) (fun _ _ => rfl)) ?_
                  refine And.intro (ob_call2 rfl Tryz.func35 (by kernel_rfl) (wt_none rfl) (ev_dep (j := 1) (by kernel_rfl) rfl rfl) (ev_dep (j := 5) (by kernel_rfl) rfl rfl) (fun w2 u0 u1 hb h0 h1 => by obtain rfl := h0; obtain rfl := h1; exact (mul8_any _ x _ y _ (ke0.drew.below hb) (zb.drew.below hb) (lx.mono (by decide)) (ly.mono (by decide))).mono fun e w3 h => RetQn.pd h.n)) ?_
                  refine And.intro (ob_call2 rfl Tryz.func31 (by kernel_rfl) (wt_none rfl) (ev_dep (j := 0) (by kernel_rfl) rfl rfl) (ev_dep (j := 6) (by kernel_rfl) rfl rfl) (fun w2 u0 u1 hb h0 h1 => by obtain rfl := h0; exact (add8_any _ s _ (x * y) _ (k6.drew.below hb) h1 (ls.mono (by decide)) (lxy.mono (by decide))).mono fun e w3 h => RetQ.pd h hb.size)) ?_
                  trivial
                case done13 =>
                  refine fun w9 hb9 v0 h0 v1 h1 v2 h2 v3 h3 v4 h4 v5 h5 v6 h6 v7 h7 b hbf => ?_
                  obtain rfl := h0; obtain rfl := h1; obtain rfl := h2; obtain rfl := h3; obtain rfl := h4; obtain rfl := h5
                  have q6 := h6
                  obtain ⟨q7, f7⟩ := h7
                  simp only [Act.put, List.setIfInBounds_toArray, List.set_cons_zero, List.set_cons_succ] at hbf
                  subst hbf
                  replace BR0 := BR0.below hb9
                  replace B6 := B6.below hb9
                  replace k6s := k6s.below hb9
                  replace k6d := k6d.below hb9
                  replace k6z := k6z.below hb9
                  replace k6 := k6.below hb9
                  replace Be0 := Be0.below hb9
                  replace ke0s := ke0s.below hb9
                  replace ke0d := ke0d.below hb9
                  replace ke0z := ke0z.below hb9
                  replace ke0 := ke0.below hb9
                  replace bb := bb.trans (hb9.mono bb.size)
                  have hsz9 := bb.size
                  have s_7 := sB
                  obtain ⟨u7, t7, rfl, q7, d7⟩ := q7
                  obtain ⟨A4, c4, rfl, _⟩ := id q7
                  obtain ⟨D4, e4, rfl, _⟩ := id d7
                  refine any_store (i := 8) (by kernel_rfl) rfl rfl rfl rfl rfl rfl (cells := [.bool (ngB ((s + x * y)).num), .slice A4 (digs 4294967296 ((s + x * y)).num.natAbs).length c4, .slice D4 (digs 4294967296 ((s + x * y)).den).length e4]) rfl B6 rfl (by kernel_rfl) (one3 rfl rfl rfl) fun w10 hg10 BN10 => ?_
                  replace q7 := off q7 B6 no_ints3 hg10
                  replace d7 := off d7 B6 no_ints3 hg10
                  replace BR0 := BR0.grown hg10 (by omega)
                  replace ke0s := off ke0s B6 no_ints3 hg10
                  replace ke0d := off ke0d B6 no_ints3 hg10
                  replace ke0z : IsZ w10 (.agg #[.bool (ngB (x).num), .slice Ae0 (digs 4294967296 (x).num.natAbs).length ce0]) ((x).num) := ⟨_, rfl, ke0s⟩
                  replace ke0 : IsQ w10 (.agg #[.bool (ngB (x).num), .slice Ae0 (digs 4294967296 (x).num.natAbs).length ce0, .slice De0 (digs 4294967296 (x).den).length ee0]) (x) := ⟨_, _, rfl, ke0s, ke0d⟩
                  replace Be0 := Be0.grown hg10 (by omega)
                  replace bb := bb.trans ((Below.refl _ _).grown hg10 bb.size (fun g hg => by injection hg with hg; omega))
                  have hsz10 := bb.size
                  have B4 : Blk w10 (g9_1) _ _ := BN10
                  have k4s := q7
                  have k4d := d7
                  have k4z : IsZ w10 (.agg #[.bool (ngB ((s + x * y)).num), .slice A4 (digs 4294967296 ((s + x * y)).num.natAbs).length c4]) (((s + x * y)).num) := ⟨_, rfl, k4s⟩
                  have k4 : IsQ w10 (.agg #[.bool (ngB ((s + x * y)).num), .slice A4 (digs 4294967296 ((s + x * y)).num.natAbs).length c4, .slice D4 (digs 4294967296 ((s + x * y)).den).length e4]) ((s + x * y)) := ⟨_, _, rfl, k4s, k4d⟩
                  refine any_done (by kernel_rfl) ?_
                  have HN : Hid (s + x * y = sumq ((prods p q).take (k + 1))) := by show _ = _; rw [take_snoc (show (prods p q)[k]? = some (x * y) from zip_at HQ0.out HY.out), sumq_snoc, HS.out]
                  have hsk : p.length - (k + 1) < p.length - k := by omega
                  go_wp2
                  go_roundw
                  case rel => exact ⟨k + 1, by omega, by rw [← HN.out]; exact ⟨_, _, B4, k4s, k4d⟩, BR0, bb, B4.lt, by go_num⟩
                  case measure => simp [intOf]; omega
        · have HN : Hid (s = dotq p q) := by show _ = _; rw [HS.out, List.take_of_length_le (by rw [show (prods p q).length = p.length from zip_len HE.out]; omega)]; rfl
          have sB := bb.size
          go_upto_region 10 with (fail)
          refine flowp 1 [Pd.eq (.agg #[.bool (ngB (s).num), .slice A6 (digs 4294967296 (s).num.natAbs).length c6, .slice D6 (digs 4294967296 (s).den).length e6])] (by kernel_rfl) ?ob14 ?done14
          case ob14 =>
            refine And.intro (ob_load rfl (wt_none rfl) (ev_far rfl rfl) (fun w2 hb => run_loadAll Tryz.underlying28 rfl (by kernel_rfl) (B6.below hb)) (fun _ _ => rfl)) ?_
            trivial
          case done14 =>
            refine fun w5 hb5 v0 h0 b hbf => ?_
            obtain rfl := h0
            simp only [Act.put, List.setIfInBounds_toArray, List.set_cons_zero, List.set_cons_succ] at hbf
            subst hbf
            replace BR0 := BR0.below hb5
            replace B6 := B6.below hb5
            replace k6s := k6s.below hb5
            replace k6d := k6d.below hb5
            replace k6z := k6z.below hb5
            replace k6 := k6.below hb5
            replace bb := bb.trans (hb5.mono bb.size)
            have hsz5 := bb.size
            refine ops_store (i := 1) rfl rfl rfl rfl rfl rfl (cells := [.bool (ngB (s).num), .slice A6 (digs 4294967296 (s).num.natAbs).length c6, .slice D6 (digs 4294967296 (s).den).length e6]) rfl BR0 rfl (by kernel_rfl) (one3 rfl rfl rfl) fun w9 hg9 B9 => ?_
            have k9 := off k6s BR0 no_ints3 hg9
            have d9 := off k6d BR0 no_ints3 hg9
            have bb9 := bb.trans ((Below.refl _ _).grown hg9 bb.size (fun g hg => by injection hg with hg; omega))
            obtain ⟨C0, C1, C2, _, _, _⟩ := three B9
            refine ops_assign (i := 2) (.int .i64 0) rfl rfl rfl rfl rfl fun b hbf => ?_
            simp only [Act.put, List.setIfInBounds_toArray, List.set_cons_zero, List.set_cons_succ] at hbf
            subst hbf
            refine ops_done ?_
            go_wp2
            rw [← HN.out]
            exact bodyPost_ret (v := .tuple #[.agg #[.bool (ngB (s).num), .slice A6 (digs 4294967296 (s).num.natAbs).length c6, .slice D6 (digs 4294967296 (s).den).length e6], .int .i64 0]) (by simp [results, Tryz.results16, go_sem, C0, C1, C2]) rfl ⟨_, rfl, ⟨_, _, rfl, k9, d9⟩, bb9⟩
set_option maxHeartbeats 3200000 in
set_option maxRecDepth 100000 in
theorem flead_any (a0 : Value) (p : List Rat) (n : Int) (w : World) (h0 : SlF .u64 4294967296 w a0 p) (hl : p.length ≤ 200 ∧ ∀ x ∈ p, lenQ x 3) (hn : n = (leadq p : Int)) :
    Calls Tryz.prog 20 #[a0] w (RetV (.int .i64 n) w) := by
  have bb : Below w.heap.size w w := Below.refl _ _
  have sl0 := h0
  obtain ⟨A0, c0, rfl, hc0, hm0⟩ := h0.shape
  unfold maxLen at hm0
  have HN := Lib.hid hn
  clear hn hl
  go_enter Tryz.func20, Tryz.ntmps20
  go_upto_region 1 with (fail)
  have hsz0 := bb.size
  go_wp2
  go_loopw [7] (fun v7 wr => ∃ k : Nat, k ≤ p.length ∧ Hid (∀ x ∈ p.take k, x = 0) ∧ Below w.heap.size w wr ∧ v7 = .int .i64 (k : Int)) (fun v7 _ => p.length - (intOf v7).toNat)
  case atStart => exact ⟨0, by omega, by show ∀ x ∈ _, _; intro x hx; simp at hx, bb, rfl⟩
  case round =>
    obtain ⟨k, hk, HA, hbw, rfl⟩ := hrel
    clear bb
    have bb := hbw
    clear hbw
    have hszr := bb.size
    by_cases hlt : k < p.length
    · obtain ⟨x, hq0_⟩ : ∃ x, p[k]? = some x := ⟨_, List.getElem?_eq_getElem hlt⟩
      obtain ⟨g0_, o0_, ue0, te0, hA0_, _, e00, e01, e02, es0, ed0⟩ := (sl0.below bb).at_ hq0_
      subst hA0_
      have HQ0 := Lib.hid hq0_
      clear hq0_
      obtain ⟨Ae0, ce0, rfl, _⟩ := id es0
      obtain ⟨De0, ee0, rfl, _⟩ := id ed0
      have ke0 : IsQ wr (.agg #[.bool (ngB x.num), .slice Ae0 (digs 4294967296 x.num.natAbs).length ce0, .slice De0 (digs 4294967296 x.den).length ee0]) x := ⟨_, _, rfl, es0, ed0⟩
      have sB := bb.size
      go_upto_region 3 with (fail)
      refine flowp 5 [Pd.eq (.int .i64 (k : Int)), Pd.eq (.pointer (some ⟨g0_, o0_ + k * 3, none⟩)), Pd.eq (.agg #[.bool (ngB x.num), .slice Ae0 (digs 4294967296 x.num.natAbs).length ce0, .slice De0 (digs 4294967296 x.den).length ee0]), pn 28 #[.bool false, .slice none 0 0, .slice none 0 0] wr.heap.size, Pd.eq (.int .i64 (k : Int))] (by kernel_rfl) ?ob15 ?done15
      case ob15 =>
        refine And.intro (ob_move rfl (wt_none rfl) (ev_far rfl rfl) (fun _ _ h => h)) ?_
        refine And.intro (ob_indexAddr rfl (wt_none rfl) (ev_far rfl rfl) (ev_far rfl rfl) (fun _ _ _ hx hy => ⟨_, by rw [hx, hy]; exact index3 Tryz.underlying22 (by kernel_rfl) hlt _, rfl⟩)) ?_
        refine And.intro (ob_load rfl (wt_none rfl) (ev_dep (j := 1) (by kernel_rfl) rfl rfl) (fun w2 hb => load3 Tryz.underlying28 rfl (by kernel_rfl) ((hb.cell (World.block_lt_of_cell? wr _ e00)).trans e00) ((hb.cell (World.block_lt_of_cell? wr _ e01)).trans e01) ((hb.cell (World.block_lt_of_cell? wr _ e02)).trans e02)) (fun _ _ => rfl)) ?_
        refine And.intro (ob_alloc (z := .agg #[.bool false, .slice none 0 0, .slice none 0 0]) rfl rfl (fun _ => by kernel_rfl) (fun _ _ hB h => ⟨_, rfl, hB, h⟩)) ?_
        refine And.intro (ob_assign rfl (wt_none rfl) (ev_dep (j := 0) (by kernel_rfl) rfl rfl) (fun _ _ h => h)) ?_
        trivial
      case done15 =>
        refine fun w2 hb2 v0 h0 v1 h1 v2 h2 v3 h3 d3 v4 h4 b hbf => ?_
        obtain rfl := h0; obtain rfl := h1; obtain rfl := h2; obtain rfl := h4
        obtain ⟨g15_3, rfl, hg3, B3⟩ := h3
        simp only [Act.put, List.setIfInBounds_toArray, List.set_cons_zero, List.set_cons_succ] at hbf
        subst hbf
        replace es0 := es0.below hb2
        replace ed0 := ed0.below hb2
        replace bb := bb.trans (hb2.mono bb.size)
        have hsz2 := bb.size
        have BA4 := B3
        have q2 := es0
        have d2 := ed0
        refine ops_store (i := 5) rfl rfl rfl rfl rfl rfl (cells := [.bool (ngB (x).num), .slice Ae0 (digs 4294967296 (x).num.natAbs).length ce0, .slice De0 (digs 4294967296 (x).den).length ee0]) rfl BA4 rfl (by kernel_rfl) (one3 rfl rfl rfl) fun w3 hg3 BN3 => ?_
        replace q2 := off q2 BA4 no_ints3 hg3
        replace d2 := off d2 BA4 no_ints3 hg3
        replace bb := bb.trans ((Below.refl _ _).grown hg3 bb.size (fun g hg => by injection hg with hg; omega))
        have hsz3 := bb.size
        have Be0 : Blk w3 (g15_3) _ _ := BN3
        have ke0s := q2
        have ke0d := d2
        have ke0z : IsZ w3 (.agg #[.bool (ngB (x).num), .slice Ae0 (digs 4294967296 (x).num.natAbs).length ce0]) ((x).num) := ⟨_, rfl, ke0s⟩
        have ke0 : IsQ w3 (.agg #[.bool (ngB (x).num), .slice Ae0 (digs 4294967296 (x).num.natAbs).length ce0, .slice De0 (digs 4294967296 (x).den).length ee0]) (x) := ⟨_, _, rfl, ke0s, ke0d⟩
        refine ops_done ?_
        obtain ⟨t, ht⟩ : ∃ t, t = ordz x.num 0 := ⟨_, rfl⟩
        have HT := Lib.hid ht
        by_cases hx : x = 0
        · have HTB : Hid ((t != 0) = false) := by show _ = _; rw [ht, hx]; rfl
          have HA2 : Hid (∀ y ∈ p.take (k + 1), y = 0) := by
            show ∀ y ∈ _, _
            rw [take_snoc HQ0.out]
            intro y hy
            rcases List.mem_append.1 hy with hy | hy
            · exact HA.out y hy
            · rw [List.mem_singleton.1 hy]; exact hx
          clear ht hx
          have sB := bb.size
          go_upto_region 4 with (fail)
          refine flowp 3 [Pd.eq (.agg #[.bool (ngB (x).num), .slice Ae0 (digs 4294967296 (x).num.natAbs).length ce0, .slice De0 (digs 4294967296 (x).den).length ee0]), Pd.eq (.int .i64 t), Pd.eq (.bool false)] (by kernel_rfl) ?ob16 ?done16
          case ob16 =>
            refine And.intro (ob_load rfl (wt_none rfl) (ev_far rfl rfl) (fun w2 hb => run_loadAll Tryz.underlying28 rfl (by kernel_rfl) (Be0.below hb)) (fun _ _ => rfl)) ?_
            refine And.intro (ob_call1 rfl Tryz.func44 (by kernel_rfl) (wt_none rfl) (ev_dep (j := 0) (by kernel_rfl) rfl rfl) (fun w2 u0 hb h0 => by obtain rfl := h0; exact (fsign0_any _ x t _ (ke0.below hb) HT.out).mono fun e w3 h => RetV.pd h)) ?_
            refine And.intro (ob_bin rfl (wt_none rfl) (ev_dep (j := 1) (by kernel_rfl) rfl rfl) (ev_const _) (fun _ _ _ hx hy => ⟨.bool false, by rw [hx, hy, bin_neq_int, HTB.out], rfl⟩)) ?_
            trivial
          case done16 =>
            refine fun w5 hb5 v0 h0 v1 h1 v2 h2 b hbf => ?_
            obtain rfl := h0; obtain rfl := h1; obtain rfl := h2
            simp only [Act.put, List.setIfInBounds_toArray, List.set_cons_zero, List.set_cons_succ] at hbf
            subst hbf
            replace Be0 := Be0.below hb5
            replace ke0s := ke0s.below hb5
            replace ke0d := ke0d.below hb5
            replace ke0z := ke0z.below hb5
            replace ke0 := ke0.below hb5
            replace bb := bb.trans (hb5.mono bb.size)
            have hsz5 := bb.size
            refine ops_done ?_
            have hsk : p.length - (k + 1) < p.length - k := by omega
            go_wp2
            go_roundw
            case rel => exact ⟨k + 1, by omega, HA2, bb, by go_num⟩
            case measure => simp [intOf]; omega
        · have HTB : Hid ((t != 0) = true) := by
            show _ = _
            rw [bne_iff_ne, ht]
            intro e
            have hz : x.num ≠ 0 := fun h => hx (Rat.num_eq_zero.1 h)
            rcases Int.lt_or_gt_of_ne hz with h | h
            · rw [ordz_lt h] at e; cases e
            · rw [ordz_gt h] at e; cases e
          have HK : Hid (n = (k : Int)) := by show _ = _; rw [HN.out, leadq_is (by omega) HA.out (fun y hy => by rw [HQ0.out] at hy; exact Option.some.inj hy ▸ hx)]
          clear ht hx
          have sB := bb.size
          go_upto_region 4 with (fail)
          refine flowp 3 [Pd.eq (.agg #[.bool (ngB (x).num), .slice Ae0 (digs 4294967296 (x).num.natAbs).length ce0, .slice De0 (digs 4294967296 (x).den).length ee0]), Pd.eq (.int .i64 t), Pd.eq (.bool true)] (by kernel_rfl) ?ob17 ?done17
          case ob17 =>
            refine And.intro (ob_load rfl (wt_none rfl) (ev_far rfl rfl) (fun w2 hb => run_loadAll Tryz.underlying28 rfl (by kernel_rfl) (Be0.below hb)) (fun _ _ => rfl)) ?_
            refine And.intro (ob_call1 rfl Tryz.func44 (by kernel_rfl) (wt_none rfl) (ev_dep (j := 0) (by kernel_rfl) rfl rfl) (fun w2 u0 hb h0 => by obtain rfl := h0; exact (fsign0_any _ x t _ (ke0.below hb) HT.out).mono fun e w3 h => RetV.pd h)) ?_
            refine And.intro (ob_bin rfl (wt_none rfl) (ev_dep (j := 1) (by kernel_rfl) rfl rfl) (ev_const _) (fun _ _ _ hx hy => ⟨.bool true, by rw [hx, hy, bin_neq_int, HTB.out], rfl⟩)) ?_
            trivial
          case done17 =>
            refine fun w5 hb5 v0 h0 v1 h1 v2 h2 b hbf => ?_
            obtain rfl := h0; obtain rfl := h1; obtain rfl := h2
            simp only [Act.put, List.setIfInBounds_toArray, List.set_cons_zero, List.set_cons_succ] at hbf
            subst hbf
            replace Be0 := Be0.below hb5
            replace ke0s := ke0s.below hb5
            replace ke0d := ke0d.below hb5
            replace ke0z := ke0z.below hb5
            replace ke0 := ke0.below hb5
            replace bb := bb.trans (hb5.mono bb.size)
            have hsz5 := bb.size
            refine ops_done ?_
            go_wp2
            go_ret
            exact ⟨by rw [HK.out]; rfl, bb⟩
    · have HK : Hid (n = ((p.length : Nat) : Int)) := by show _ = _; rw [HN.out, leadq_is (k := p.length) (Nat.le_refl _) (fun x hx => HA.out x (by rwa [List.take_of_length_le (by omega)] at hx ⊢)) (fun y hy => by have := (List.getElem?_eq_some_iff.1 hy).1; omega)]
      go_wp2
      go_ret
      exact ⟨by rw [HK.out]; rfl, bb⟩
set_option maxHeartbeats 1600000 in
set_option maxRecDepth 100000 in
theorem vown_any (a0 : Value) (x : Rat) (w : World) (h0 : IsQ w a0 x) (hl : lenQ x 100000) :
    Calls Tryz.prog 33 #[a0] w (RetQ x w) := by
  obtain ⟨u0, t0, rfl, s0, r0⟩ := h0
  obtain ⟨A0, c0, rfl, _⟩ := id s0
  obtain ⟨D0, e0, rfl, _⟩ := id r0
  go_enter Tryz.func33, Tryz.ntmps33
  go_upto_region 1 with (fail)
  obtain ⟨wx, hwx, bb, B0, BR0, hsz⟩ := vars2 w 28 28 #[.bool (ngB (x).num), .slice A0 (digs 4294967296 (x).num.natAbs).length c0, .slice D0 (digs 4294967296 (x).den).length e0] #[.bool false, .slice none 0 0, .slice none 0 0]
  rw [hwx]
  clear hwx
  have k0s := s0.below bb
  have k0d := r0.below bb
  have k0z : IsZ wx (.agg #[.bool (ngB (x).num), .slice A0 (digs 4294967296 (x).num.natAbs).length c0]) (x).num := ⟨_, rfl, k0s⟩
  have k0 : IsQ wx (.agg #[.bool (ngB (x).num), .slice A0 (digs 4294967296 (x).num.natAbs).length c0, .slice D0 (digs 4294967296 (x).den).length e0]) (x) := ⟨_, _, rfl, k0s, k0d⟩
  have hsz0 := bb.size
  have sB := bb.size
  refine flow 13 [Pd.eq (.pointer (some ⟨w.heap.size, 0, none⟩)), Pd.eq (.pointer (some ⟨w.heap.size, 0, none⟩)), Pd.eq (.bool (ngB (x).num)), Pd.eq (.pointer (some ⟨w.heap.size, 0, none⟩)), Pd.eq (.pointer (some ⟨w.heap.size, 1, none⟩)), Pd.eq (.slice A0 (digs 4294967296 (x).num.natAbs).length c0), ps .u64 (digs 4294967296 (x).num.natAbs) wx.heap.size, Pd.eq (.pointer (some ⟨w.heap.size, 2, none⟩)), Pd.eq (.slice D0 (digs 4294967296 (x).den).length e0), ps .u64 (digs 4294967296 (x).den) wx.heap.size, Pd.eq (.bool (ngB (x).num)), ps .u64 (digs 4294967296 (x).num.natAbs) wx.heap.size, ps .u64 (digs 4294967296 (x).den) wx.heap.size] (by kernel_rfl) (by kernel_rfl) ?ob1 ?done1
  case ob1 =>
    refine And.intro (ob_fieldAddr rfl (wt_none rfl) (ev_far rfl rfl) (fun _ => by kernel_rfl) (fun _ => rfl)) ?_
    refine And.intro (ob_fieldAddr rfl (wt_none rfl) (ev_dep (j := 0) (by kernel_rfl) rfl rfl) (fun _ => by kernel_rfl) (fun _ => rfl)) ?_
    refine And.intro (ob_load rfl (wt_none rfl) (ev_dep (j := 1) (by kernel_rfl) rfl rfl) (fun w2 hb => run_load1 Tryz.underlying4 rfl ((B0.drew.below hb).cell 0)) (fun _ _ => rfl)) ?_
    refine And.intro (ob_fieldAddr rfl (wt_none rfl) (ev_far rfl rfl) (fun _ => by kernel_rfl) (fun _ => rfl)) ?_
    refine And.intro (ob_fieldAddr rfl (wt_none rfl) (ev_dep (j := 3) (by kernel_rfl) rfl rfl) (fun _ => by kernel_rfl) (fun _ => rfl)) ?_
    refine And.intro (ob_load rfl (wt_none rfl) (ev_dep (j := 4) (by kernel_rfl) rfl rfl) (fun w2 hb => run_load1 Tryz.underlying24 rfl ((B0.drew.below hb).cell 1)) (fun _ _ => rfl)) ?_
    refine And.intro (ob_call1 rfl Tryz.func62 (by kernel_rfl) (wt_none rfl) (ev_dep (j := 5) (by kernel_rfl) rfl rfl) (fun w2 u0 hb h0 => by obtain rfl := h0; exact (clone_any _ _ _ (k0s.drew.below hb) (Nat.le_trans hl.1 (by decide))).mono fun e w3 h => RetS.pd h hb.size)) ?_
    refine And.intro (ob_fieldAddr rfl (wt_none rfl) (ev_far rfl rfl) (fun _ => by kernel_rfl) (fun _ => rfl)) ?_
    refine And.intro (ob_load rfl (wt_none rfl) (ev_dep (j := 7) (by kernel_rfl) rfl rfl) (fun w2 hb => run_load1 Tryz.underlying24 rfl ((B0.drew.below hb).cell 2)) (fun _ _ => rfl)) ?_
    refine And.intro (ob_call1 rfl Tryz.func62 (by kernel_rfl) (wt_none rfl) (ev_dep (j := 8) (by kernel_rfl) rfl rfl) (fun w2 u0 hb h0 => by obtain rfl := h0; exact (clone_any _ _ _ (k0d.drew.below hb) (Nat.le_trans hl.2 (by decide))).mono fun e w3 h => RetS.pd h hb.size)) ?_
    refine And.intro (ob_assign rfl (wt_none rfl) (ev_dep (j := 2) (by kernel_rfl) rfl rfl) (fun _ _ h => h)) ?_
    refine And.intro (ob_assign rfl (wt_none rfl) (ev_dep (j := 6) (by kernel_rfl) rfl rfl) (fun _ _ h => h)) ?_
    refine And.intro (ob_assign rfl (wt_none rfl) (ev_dep (j := 9) (by kernel_rfl) rfl rfl) (fun _ _ h => h)) ?_
    trivial
  case done1 =>
    refine fun w1 hb1 v0 h0 v1 h1 v2 h2 v3 h3 v4 h4 v5 h5 v6 h6 v7 h7 v8 h8 v9 h9 v10 h10 v11 h11 v12 h12 b hbf => ?_
    obtain rfl := h0; obtain rfl := h1; obtain rfl := h2; obtain rfl := h3; obtain rfl := h4; obtain rfl := h5; obtain rfl := h7; obtain rfl := h8; obtain rfl := h10
    obtain ⟨q6, f6⟩ := h6
    obtain ⟨q9, f9⟩ := h9
    obtain ⟨q11, f11⟩ := h11
    obtain ⟨q12, f12⟩ := h12
    simp only [Act.put, List.setIfInBounds_toArray, List.set_cons_zero, List.set_cons_succ] at hbf
    subst hbf
    replace B0 := B0.below hb1
    replace k0s := k0s.below hb1
    replace k0d := k0d.below hb1
    replace k0z := k0z.below hb1
    replace k0 := k0.below hb1
    replace BR0 := BR0.below hb1
    replace bb := bb.trans (hb1.mono bb.size)
    have hsz1 := bb.size
    have s_6 := sB
    have s_9 := sB
    have s_11 := sB
    have s_12 := sB
    refine any_done (by kernel_rfl) ?_
    obtain ⟨A4, c4, rfl, _⟩ := id q11
    have n4 := q11
    have n4f := f11
    have n4z_ := s_11
    obtain ⟨A5, c5, rfl, _⟩ := id q12
    have n5 := q12
    have n5f := f12
    have n5z_ := s_12
    have sB := bb.size
    go_upto_region 2 with (fail)
    refine flowp 5 [Pd.eq (.bool (ngB (x).num)), Pd.eq (.slice A4 (digs 4294967296 (x).num.natAbs).length c4), Pd.eq (.agg #[.bool (ngB (x).num), .slice A4 (digs 4294967296 (x).num.natAbs).length c4]), Pd.eq (.slice A5 (digs 4294967296 (x).den).length c5), Pd.eq (.agg #[.bool (ngB (x).num), .slice A4 (digs 4294967296 (x).num.natAbs).length c4, .slice A5 (digs 4294967296 (x).den).length c5])] (by kernel_rfl) ?ob2 ?done2
    case ob2 =>
      refine And.intro (ob_move rfl (wt_none rfl) (ev_far rfl rfl) (fun _ _ h => h)) ?_
      refine And.intro (ob_move rfl (wt_none rfl) (ev_far rfl rfl) (fun _ _ h => h)) ?_
      refine And.intro (ob_build2b rfl (wt_none rfl) (ev_dep (j := 0) (by kernel_rfl) rfl rfl) (ev_dep (j := 1) (by kernel_rfl) rfl rfl) (fun w2 u v hb hu hv => by obtain rfl := hu; obtain rfl := hv; exact ⟨.agg #[.bool (ngB (x).num), .slice A4 (digs 4294967296 (x).num.natAbs).length c4], by kernel_rfl, rfl⟩)) ?_
      refine And.intro (ob_move rfl (wt_none rfl) (ev_far rfl rfl) (fun _ _ h => h)) ?_
      refine And.intro (ob_build2b rfl (wt_none rfl) (ev_dep (j := 2) (by kernel_rfl) rfl rfl) (ev_dep (j := 3) (by kernel_rfl) rfl rfl) (fun w2 u v hb hu hv => by obtain rfl := hu; obtain rfl := hv; exact ⟨.agg #[.bool (ngB (x).num), .slice A4 (digs 4294967296 (x).num.natAbs).length c4, .slice A5 (digs 4294967296 (x).den).length c5], by kernel_rfl, rfl⟩)) ?_
      trivial
    case done2 =>
      refine fun w2 hb2 v0 h0 v1 h1 v2 h2 v3 h3 v4 h4 b hbf => ?_
      obtain rfl := h0; obtain rfl := h1; obtain rfl := h2; obtain rfl := h3; obtain rfl := h4
      simp only [Act.put, List.setIfInBounds_toArray, List.set_cons_zero, List.set_cons_succ] at hbf
      subst hbf
      replace B0 := B0.below hb2
      replace k0s := k0s.below hb2
      replace k0d := k0d.below hb2
      replace k0z := k0z.below hb2
      replace k0 := k0.below hb2
      replace BR0 := BR0.below hb2
      replace n4 := n4.below hb2
      replace n5 := n5.below hb2
      replace bb := bb.trans (hb2.mono bb.size)
      have hsz2 := bb.size
      refine ops_store (i := 5) rfl rfl rfl rfl rfl rfl (cells := [.bool (ngB (x).num), .slice A4 (digs 4294967296 (x).num.natAbs).length c4, .slice A5 (digs 4294967296 (x).den).length c5]) rfl BR0 rfl (by kernel_rfl) (one3 rfl rfl rfl) fun w9 hg9 B9 => ?_
      have k9 := off n4 BR0 no_ints3 hg9
      have d9 := off n5 BR0 no_ints3 hg9
      have bb9 := bb.trans ((Below.refl _ _).grown hg9 bb.size (fun g hg => by injection hg with hg; omega))
      obtain ⟨C0, C1, C2, _, _, _⟩ := three B9
      refine ops_done ?_
      go_wp2
      exact bodyPost_ret (v := .agg #[.bool (ngB (x).num), .slice A4 (digs 4294967296 (x).num.natAbs).length c4, .slice A5 (digs 4294967296 (x).den).length c5]) (by simp [results, Tryz.results33, go_sem, C0, C1, C2]) rfl ⟨_, rfl, isQ_mk k9 d9 rfl rfl rfl, freshQ_mk (n4f.mono n4z_) (n5f.mono n5z_), bb9⟩
set_option maxHeartbeats 1600000 in
set_option maxRecDepth 100000 in
theorem fless_no (a0 a1 a2 : Value) (p : List Rat) (K : Rat) (q : List Rat) (w : World) (h0 : SlF .u64 4294967296 w a0 p) (h1 : IsQ w a1 K) (h2 : SlF .u64 4294967296 w a2 q) (he : p.length ≠ q.length) :
    Calls Tryz.prog 8 #[a0, a1, a2] w (RetQLE [] 8 w) := by
  obtain ⟨u1, t1, rfl, s1, r1⟩ := h1
  obtain ⟨A1, c1, rfl, _⟩ := id s1
  obtain ⟨D1, e1, rfl, _⟩ := id r1
  have sl0 := h0
  obtain ⟨A0, c0, rfl, hc0, hm0⟩ := h0.shape
  unfold maxLen at hm0
  have sl2 := h2
  obtain ⟨A2, c2, rfl, hc2, hm2⟩ := h2.shape
  unfold maxLen at hm2
  have HNE : Hid ((((p.length : Nat) : Int) != ((q.length : Nat) : Int)) = true) := by show _ = _; rw [bne_iff_ne]; omega
  clear he
  go_enter Tryz.func8, Tryz.ntmps8
  go_upto_region 1 with (fail)
  obtain ⟨wx, hwx, bb, B1, hsz⟩ := vars1 w 28 #[.bool (ngB (K).num), .slice A1 (digs 4294967296 (K).num.natAbs).length c1, .slice D1 (digs 4294967296 (K).den).length e1]
  rw [hwx]
  clear hwx
  have k1s := s1.below bb
  have k1d := r1.below bb
  have k1z : IsZ wx (.agg #[.bool (ngB (K).num), .slice A1 (digs 4294967296 (K).num.natAbs).length c1]) (K).num := ⟨_, rfl, k1s⟩
  have k1 : IsQ wx (.agg #[.bool (ngB (K).num), .slice A1 (digs 4294967296 (K).num.natAbs).length c1, .slice D1 (digs 4294967296 (K).den).length e1]) (K) := ⟨_, _, rfl, k1s, k1d⟩
  have hsz0 := bb.size
  have sB := bb.size
  refine flowp 5 [Pd.eq (.slice A0 p.length c0), Pd.eq (.int .i64 ((p.length : Nat) : Int)), Pd.eq (.slice A2 q.length c2), Pd.eq (.int .i64 ((q.length : Nat) : Int)), Pd.eq (.bool true)] (by kernel_rfl) ?ob3 ?done3
  case ob3 =>
    refine And.intro (ob_move rfl (wt_none rfl) (ev_far rfl rfl) (fun _ _ h => h)) ?_
    refine And.intro (ob_len rfl (wt_none rfl) (ev_dep (j := 0) (by kernel_rfl) rfl rfl) (fun _ _ hx => ⟨_, by rw [hx]; exact len_slice Tryz.underlying22 _ _ _ _, rfl⟩)) ?_
    refine And.intro (ob_move rfl (wt_none rfl) (ev_far rfl rfl) (fun _ _ h => h)) ?_
    refine And.intro (ob_len rfl (wt_none rfl) (ev_dep (j := 2) (by kernel_rfl) rfl rfl) (fun _ _ hx => ⟨_, by rw [hx]; exact len_slice Tryz.underlying22 _ _ _ _, rfl⟩)) ?_
    refine And.intro (ob_bin rfl (wt_none rfl) (ev_dep (j := 1) (by kernel_rfl) rfl rfl) (ev_dep (j := 3) (by kernel_rfl) rfl rfl) (fun _ _ _ hx hy => ⟨.bool true, by rw [hx, hy, bin_neq_int, HNE.out], rfl⟩)) ?_
    trivial
  case done3 =>
    refine fun w1 hb1 v0 h0 v1 h1 v2 h2 v3 h3 v4 h4 b hbf => ?_
    obtain rfl := h0; obtain rfl := h1; obtain rfl := h2; obtain rfl := h3; obtain rfl := h4
    simp only [Act.put, List.setIfInBounds_toArray, List.set_cons_zero, List.set_cons_succ] at hbf
    subst hbf
    replace B1 := B1.below hb1
    replace k1s := k1s.below hb1
    replace k1d := k1d.below hb1
    replace k1z := k1z.below hb1
    replace k1 := k1.below hb1
    replace bb := bb.trans (hb1.mono bb.size)
    have hsz1 := bb.size
    refine ops_done ?_
    go_wp2
    go_ret2
    exact RetNN.qle ⟨rfl, bb⟩
set_option maxHeartbeats 3200000 in
set_option maxRecDepth 100000 in
theorem fless_ok (a0 a1 a2 : Value) (p : List Rat) (K : Rat) (q : List Rat) (w : World) (h0 : SlF .u64 4294967296 w a0 p) (h1 : IsQ w a1 K) (h2 : SlF .u64 4294967296 w a2 q) (he : p.length = q.length) (hl : p.length ≤ 8 ∧ (∀ x ∈ p, lenQ x 1) ∧ lenQ K 1 ∧ ∀ x ∈ q, lenQ x 1) :
    Calls Tryz.prog 8 #[a0, a1, a2] w (RetQLE (lessq p K q) 0 w) := by
  obtain ⟨u1, t1, rfl, s1, r1⟩ := h1
  obtain ⟨A1, c1, rfl, _⟩ := id s1
  obtain ⟨D1, e1, rfl, _⟩ := id r1
  have sl0 := h0
  obtain ⟨A0, c0, rfl, hc0, hm0⟩ := h0.shape
  unfold maxLen at hm0
  have sl2 := h2
  obtain ⟨A2, c2, rfl, hc2, hm2⟩ := h2.shape
  unfold maxLen at hm2
  have HNE : Hid ((((p.length : Nat) : Int) != ((q.length : Nat) : Int)) = false) := by show _ = _; rw [bne_eq_false_iff_eq]; omega
  have HE := Lib.hid he
  have HL := Lib.hid hl
  have lK : lenQ K 1 := hl.2.2.1
  have hl8 : p.length ≤ 8 := hl.1
  have HRL : Hid ((lessq p K q).length = p.length) := lessq_len he
  clear hl he
  go_enter Tryz.func8, Tryz.ntmps8
  go_upto_region 1 with (fail)
  obtain ⟨wx, hwx, bb, B1, hsz⟩ := vars1 w 28 #[.bool (ngB (K).num), .slice A1 (digs 4294967296 (K).num.natAbs).length c1, .slice D1 (digs 4294967296 (K).den).length e1]
  rw [hwx]
  clear hwx
  have k1s := s1.below bb
  have k1d := r1.below bb
  have k1z : IsZ wx (.agg #[.bool (ngB (K).num), .slice A1 (digs 4294967296 (K).num.natAbs).length c1]) (K).num := ⟨_, rfl, k1s⟩
  have k1 : IsQ wx (.agg #[.bool (ngB (K).num), .slice A1 (digs 4294967296 (K).num.natAbs).length c1, .slice D1 (digs 4294967296 (K).den).length e1]) (K) := ⟨_, _, rfl, k1s, k1d⟩
  have hsz0 := bb.size
  have sB := bb.size
  refine flowp 5 [Pd.eq (.slice A0 p.length c0), Pd.eq (.int .i64 ((p.length : Nat) : Int)), Pd.eq (.slice A2 q.length c2), Pd.eq (.int .i64 ((q.length : Nat) : Int)), Pd.eq (.bool false)] (by kernel_rfl) ?ob4 ?done4
  case ob4 =>
    refine And.intro (ob_move rfl (wt_none rfl) (ev_far rfl rfl) (fun _ _ h => h)) ?_
    refine And.intro (ob_len rfl (wt_none rfl) (ev_dep (j := 0) (by kernel_rfl) rfl rfl) (fun _ _ hx => ⟨_, by rw [hx]; exact len_slice Tryz.underlying22 _ _ _ _, rfl⟩)) ?_
    refine And.intro (ob_move rfl (wt_none rfl) (ev_far rfl rfl) (fun _ _ h => h)) ?_
    refine And.intro (ob_len rfl (wt_none rfl) (ev_dep (j := 2) (by kernel_rfl) rfl rfl) (fun _ _ hx => ⟨_, by rw [hx]; exact len_slice Tryz.underlying22 _ _ _ _, rfl⟩)) ?_
    refine And.intro (ob_bin rfl (wt_none rfl) (ev_dep (j := 1) (by kernel_rfl) rfl rfl) (ev_dep (j := 3) (by kernel_rfl) rfl rfl) (fun _ _ _ hx hy => ⟨.bool false, by rw [hx, hy, bin_neq_int, HNE.out], rfl⟩)) ?_
    trivial
  case done4 =>
    refine fun w1 hb1 v0 h0 v1 h1 v2 h2 v3 h3 v4 h4 b hbf => ?_
    obtain rfl := h0; obtain rfl := h1; obtain rfl := h2; obtain rfl := h3; obtain rfl := h4
    simp only [Act.put, List.setIfInBounds_toArray, List.set_cons_zero, List.set_cons_succ] at hbf
    subst hbf
    replace B1 := B1.below hb1
    replace k1s := k1s.below hb1
    replace k1d := k1d.below hb1
    replace k1z := k1z.below hb1
    replace k1 := k1.below hb1
    replace bb := bb.trans (hb1.mono bb.size)
    have hsz1 := bb.size
    refine ops_done ?_
    go_wp2_with (at_make; refine wpList_make_q rfl _ _ rfl Tryz.underlying22 info_rat p.length rfl rfl (by omega) ?_; intro wm RN hbm)
    have hwg : w.heap.size ≤ w1.heap.size := bb.size
    have hlb4 := B1.lt
    replace B1 := B1.below hbm
    replace k1s := k1s.below hbm
    replace k1d := k1d.below hbm
    replace k1z := k1z.below hbm
    replace k1 := k1.below hbm
    replace bb := bb.trans (hbm.mono bb.size)
    have hsz2 := bb.size
    obtain ⟨g, hg⟩ : ∃ g, g = w1.heap.size := ⟨_, rfl⟩
    rw [← hg] at RN ⊢
    have hg_ : w1.heap.size ≤ g := by omega
    clear hg
    have hg := hg_
    clear hg_
    have hgw : w.heap.size ≤ g := by omega
    have RN0 : RowN wm g p.length ((lessq p K q).take 0) := RN
    clear RN
    go_wp2
    go_loopw [21] (fun v21 wr => ∃ k : Nat, k ≤ p.length ∧ RowN wr g p.length ((lessq p K q).take k) ∧ Blk wr (w.heap.size) 28 #[.bool (ngB (K).num), .slice A1 (digs 4294967296 (K).num.natAbs).length c1, .slice D1 (digs 4294967296 (K).den).length e1] ∧ Below w.heap.size w wr ∧ v21 = .int .i64 (k : Int)) (fun v21 _ => p.length - (intOf v21).toNat)
    case atStart => exact ⟨0, by omega, RN0, B1, bb, rfl⟩
    case round =>
      obtain ⟨k, hk, hR, hB4, hbw, rfl⟩ := hrel
      clear RN0 bb B1 k1s k1d k1z k1
      have RN := hR
      have bb := hbw
      clear hR hbw
      have B1 := hB4
      have k1s := s1.below bb
      have k1d := r1.below bb
      have k1z : IsZ wr (.agg #[.bool (ngB (K).num), .slice A1 (digs 4294967296 (K).num.natAbs).length c1]) (K).num := ⟨_, rfl, k1s⟩
      have k1 : IsQ wr (.agg #[.bool (ngB (K).num), .slice A1 (digs 4294967296 (K).num.natAbs).length c1, .slice D1 (digs 4294967296 (K).den).length e1]) (K) := ⟨_, _, rfl, k1s, k1d⟩
      have hlc4 := B1.lt
      clear hB4
      have hszr := bb.size
      have hgl := RN.lt
      by_cases hlt : k < p.length
      · obtain ⟨x, hq0_⟩ : ∃ x, p[k]? = some x := ⟨_, List.getElem?_eq_getElem hlt⟩
        obtain ⟨g0_, o0_, ue0, te0, hA0_, _, e00, e01, e02, es0, ed0⟩ := (sl0.below bb).at_ hq0_
        subst hA0_
        have HQ0 := Lib.hid hq0_
        clear hq0_
        obtain ⟨Ae0, ce0, rfl, _⟩ := id es0
        obtain ⟨De0, ee0, rfl, _⟩ := id ed0
        have ke0 : IsQ wr (.agg #[.bool (ngB x.num), .slice Ae0 (digs 4294967296 x.num.natAbs).length ce0, .slice De0 (digs 4294967296 x.den).length ee0]) x := ⟨_, _, rfl, es0, ed0⟩
        have hlt2 : k < q.length := by have := HE.out; omega
        obtain ⟨y, hy⟩ : ∃ y, q[k]? = some y := ⟨_, List.getElem?_eq_getElem hlt2⟩
        have HY := Lib.hid hy
        have lx : lenQ x 1 := HL.out.2.1 x (List.mem_of_getElem? HQ0.out)
        have ly : lenQ y 1 := HL.out.2.2.2 y (List.mem_of_getElem? hy)
        have lky : lenQ (K * y) 2 := lenQ_mul lK ly
        have HAT : Hid ((lessq p K q)[k]? = some (x - K * y)) := zip_at HQ0.out hy
        clear hy
        have hneq : q ≠ [] := List.length_pos_iff.1 (by omega)
        have HTK : Hid ((lessq p K q).take (k + 1) = (lessq p K q).take k ++ [(x - K * y)]) := take_snoc HAT.out
        have HLK : Hid (k = ((lessq p K q).take k).length) := by show _ = _; rw [List.length_take, HRL.out]; omega
        have sB := bb.size
        go_upto_region 6 with (fail)
        have lt3_4 := Blk.lt B1
        refine flowp 5 [Pd.eq (.int .i64 (k : Int)), Pd.eq (.pointer (some ⟨g0_, o0_ + k * 3, none⟩)), Pd.eq (.agg #[.bool (ngB x.num), .slice Ae0 (digs 4294967296 x.num.natAbs).length ce0, .slice De0 (digs 4294967296 x.den).length ee0]), pn 28 #[.bool false, .slice none 0 0, .slice none 0 0] wr.heap.size, Pd.eq (.int .i64 (k : Int))] (by kernel_rfl) ?ob5 ?done5
        case ob5 =>
          refine And.intro (ob_move rfl (wt_none rfl) (ev_far rfl rfl) (fun _ _ h => h)) ?_
          refine And.intro (ob_indexAddr rfl (wt_none rfl) (ev_far rfl rfl) (ev_far rfl rfl) (fun _ _ _ hx hy => ⟨_, by rw [hx, hy]; exact index3 Tryz.underlying22 (by kernel_rfl) hlt _, rfl⟩)) ?_
          refine And.intro (ob_load rfl (wt_none rfl) (ev_dep (j := 1) (by kernel_rfl) rfl rfl) (fun w2 hb => load3 Tryz.underlying28 rfl (by kernel_rfl) ((hb.cell (World.block_lt_of_cell? wr _ e00)).trans e00) ((hb.cell (World.block_lt_of_cell? wr _ e01)).trans e01) ((hb.cell (World.block_lt_of_cell? wr _ e02)).trans e02)) (fun _ _ => rfl)) ?_
          refine And.intro (ob_alloc (z := .agg #[.bool false, .slice none 0 0, .slice none 0 0]) rfl rfl (fun _ => by kernel_rfl) (fun _ _ hB h => ⟨_, rfl, hB, h⟩)) ?_
          refine And.intro (ob_assign rfl (wt_none rfl) (ev_dep (j := 0) (by kernel_rfl) rfl rfl) (fun _ _ h => h)) ?_
          trivial
        case done5 =>
          refine fun w4 hb4 v0 h0 v1 h1 v2 h2 v3 h3 d3 v4 h4 b hbf => ?_
          obtain rfl := h0; obtain rfl := h1; obtain rfl := h2; obtain rfl := h4
          obtain ⟨g5_3, rfl, hg3, B3⟩ := h3
          simp only [Act.put, List.setIfInBounds_toArray, List.set_cons_zero, List.set_cons_succ] at hbf
          subst hbf
          replace B1 := B1.below hb4
          replace k1s := k1s.below hb4
          replace k1d := k1d.below hb4
          replace k1z := k1z.below hb4
          replace k1 := k1.below hb4
          replace RN := RN.below hb4
          replace es0 := es0.below hb4
          replace ed0 := ed0.below hb4
          replace bb := bb.trans (hb4.mono bb.size)
          have hsz4 := bb.size
          have BA10 := B3
          have q2 := es0
          have d2 := ed0
          refine ops_store (i := 5) rfl rfl rfl rfl rfl rfl (cells := [.bool (ngB (x).num), .slice Ae0 (digs 4294967296 (x).num.natAbs).length ce0, .slice De0 (digs 4294967296 (x).den).length ee0]) rfl BA10 rfl (by kernel_rfl) (one3 rfl rfl rfl) fun w5 hg5 BN5 => ?_
          replace q2 := off q2 BA10 no_ints3 hg5
          replace d2 := off d2 BA10 no_ints3 hg5
          replace RN := RowN.offb RN BA10 no_ints3 hg5 (by omega)
          replace k1s := off k1s BA10 no_ints3 hg5
          replace k1d := off k1d BA10 no_ints3 hg5
          replace k1z : IsZ w5 (.agg #[.bool (ngB (K).num), .slice A1 (digs 4294967296 (K).num.natAbs).length c1]) ((K).num) := ⟨_, rfl, k1s⟩
          replace k1 : IsQ w5 (.agg #[.bool (ngB (K).num), .slice A1 (digs 4294967296 (K).num.natAbs).length c1, .slice D1 (digs 4294967296 (K).den).length e1]) (K) := ⟨_, _, rfl, k1s, k1d⟩
          replace B1 := B1.grown hg5 (by omega)
          replace bb := bb.trans ((Below.refl _ _).grown hg5 bb.size (fun g hg => by injection hg with hg; omega))
          have hsz5 := bb.size
          have Be0 : Blk w5 (g5_3) _ _ := BN5
          have ke0s := q2
          have ke0d := d2
          have ke0z : IsZ w5 (.agg #[.bool (ngB (x).num), .slice Ae0 (digs 4294967296 (x).num.natAbs).length ce0]) ((x).num) := ⟨_, rfl, ke0s⟩
          have ke0 : IsQ w5 (.agg #[.bool (ngB (x).num), .slice Ae0 (digs 4294967296 (x).num.natAbs).length ce0, .slice De0 (digs 4294967296 (x).den).length ee0]) (x) := ⟨_, _, rfl, ke0s, ke0d⟩
          refine ops_done ?_
          have hle := Be0.lt
          have hneE : g ≠ g5_3 := by omega
          obtain ⟨g2_, o2_, cp2_, hA2_, _, _, _⟩ := sl2.place hneq
          injection hA2_ with e1_ _ e3_
          subst e1_
          subst e3_
          obtain ⟨uy, ty, hlty, zy0, zy1, zy2, zys, zyd⟩ := (sl2.below bb).at2 HY.out
          obtain ⟨Ay, cy, rfl, _⟩ := id zys
          obtain ⟨Dy, ey, rfl, _⟩ := id zyd
          have zy : IsQ w5 (.agg #[.bool (ngB (y).num), .slice Ay (digs 4294967296 (y).num.natAbs).length cy, .slice Dy (digs 4294967296 (y).den).length ey]) (y) := ⟨_, _, rfl, zys, zyd⟩
          by_cases hv : K * y = 0
          · have HV : Hid (true = decide (K * y = 0)) := (decide_eq_true hv).symm
            have HXE : Hid (x = x - K * y) := by show _ = _; rw [hv]; grind
            clear hv
            have sB := bb.size
            go_upto_region 7 with (fail)
            refine flow 6 [Pd.eq (.agg #[.bool (ngB (K).num), .slice A1 (digs 4294967296 (K).num.natAbs).length c1, .slice D1 (digs 4294967296 (K).den).length e1]), Pd.eq (.slice (some ⟨g2_, o2_, none⟩) q.length c2), Pd.eq (.int .i64 (k : Int)), Pd.eq (.pointer (some ⟨g2_, o2_ + k * 3, none⟩)), Pd.eq (.agg #[.bool (ngB (y).num), .slice Ay (digs 4294967296 (y).num.natAbs).length cy, .slice Dy (digs 4294967296 (y).den).length ey]), Pd.eq (.bool true)] (by kernel_rfl) (by kernel_rfl) ?ob6 ?done6
            case ob6 =>
              refine And.intro (ob_load rfl (wt_none rfl) (ev_far rfl rfl) (fun w2 hb => run_loadAll Tryz.underlying28 rfl (by kernel_rfl) (B1.drew.below hb)) (fun _ _ => rfl)) ?_
              refine And.intro (ob_move rfl (wt_none rfl) (ev_far rfl rfl) (fun _ _ h => h)) ?_
              refine And.intro (ob_move rfl (wt_none rfl) (ev_far rfl rfl) (fun _ _ h => h)) ?_
              refine And.intro (ob_indexAddr rfl (wt_none rfl) (ev_dep (j := 1) (by kernel_rfl) rfl rfl) (ev_dep (j := 2) (by kernel_rfl) rfl rfl) (fun _ _ _ hx hy => ⟨_, by rw [hx, hy]; exact index3 (k := k) Tryz.underlying22 (by kernel_rfl) hlty _, rfl⟩)) ?_
              refine And.intro (ob_load rfl (wt_none rfl) (ev_dep (j := 3) (by kernel_rfl) rfl rfl) (fun w2 hb => load3 Tryz.underlying28 rfl (by kernel_rfl) ((hb.cell (World.block_lt_of_cell? w5 _ zy0)).trans zy0) ((hb.cell (World.block_lt_of_cell? w5 _ zy1)).trans zy1) ((hb.cell (World.block_lt_of_cell? w5 _ zy2)).trans zy2)) (fun _ _ => rfl)) ?_
              refine And.intro (ob_call2 rfl Tryz.func32 (by kernel_rfl) (wt_none rfl) (ev_dep (j := 0) (by kernel_rfl) rfl rfl) (ev_dep (j := 4) (by kernel_rfl) rfl rfl) (fun w2 u0 u1 hb h0 h1 => by obtain rfl := h0; obtain rfl := h1; exact (vanishes_any _ _ (K) (y) true _ (k1.drew.below hb) (zy.drew.below hb) HV.out).mono fun e w3 h => RetV.pd h)) ?_
              trivial
            case done6 =>
              refine fun w7 hb7 v0 h0 v1 h1 v2 h2 v3 h3 v4 h4 v5 h5 b hbf => ?_
              obtain rfl := h0; obtain rfl := h1; obtain rfl := h2; obtain rfl := h3; obtain rfl := h4; obtain rfl := h5
              simp only [Act.put, List.setIfInBounds_toArray, List.set_cons_zero, List.set_cons_succ] at hbf
              subst hbf
              replace B1 := B1.below hb7
              replace k1s := k1s.below hb7
              replace k1d := k1d.below hb7
              replace k1z := k1z.below hb7
              replace k1 := k1.below hb7
              replace Be0 := Be0.below hb7
              replace ke0s := ke0s.below hb7
              replace ke0d := ke0d.below hb7
              replace ke0z := ke0z.below hb7
              replace ke0 := ke0.below hb7
              replace RN := RN.below hb7
              replace bb := bb.trans (hb7.mono bb.size)
              have hsz7 := bb.size
              refine any_done (by kernel_rfl) ?_
              clear zy zy0 zy1 zy2 zys zyd
              have sB := bb.size
              go_upto_region 8 with (fail)
              refine flowp 5 [Pd.eq (.slice (some ⟨g, 0, none⟩) p.length p.length), Pd.eq (.int .i64 (k : Int)), Pd.eq (.agg #[.bool (ngB (x).num), .slice Ae0 (digs 4294967296 (x).num.natAbs).length ce0, .slice De0 (digs 4294967296 (x).den).length ee0]), pq ((x - K * y)) w7.heap.size, Pd.eq (.pointer (some ⟨g, 0 + k * 3, none⟩))] (by kernel_rfl) ?ob7 ?done7
              case ob7 =>
                refine And.intro (ob_move rfl (wt_none rfl) (ev_far rfl rfl) (fun _ _ h => h)) ?_
                refine And.intro (ob_move rfl (wt_none rfl) (ev_far rfl rfl) (fun _ _ h => h)) ?_
                refine And.intro (ob_load rfl (wt_none rfl) (ev_far rfl rfl) (fun w2 hb => run_loadAll Tryz.underlying28 rfl (by kernel_rfl) (Be0.below hb)) (fun _ _ => rfl)) ?_
                refine And.intro (ob_call1 rfl Tryz.func33 (by kernel_rfl) (wt_none rfl) (ev_dep (j := 2) (by kernel_rfl) rfl rfl) (fun w2 u0 hb h0 => by obtain rfl := h0; exact (vown_any _ x _ (ke0.below hb) (lx.mono (by decide))).mono fun e w3 h => RetQ.pd (h.to HXE.out) hb.size)) ?_
                refine And.intro (ob_indexAddr rfl (wt_none rfl) (ev_dep (j := 0) (by kernel_rfl) rfl rfl) (ev_dep (j := 1) (by kernel_rfl) rfl rfl) (fun _ _ _ hx hy => ⟨_, by rw [hx, hy]; exact index3 (k := k) Tryz.underlying22 (by kernel_rfl) hlt _, rfl⟩)) ?_
                trivial
              case done7 =>
                refine fun w8 hb8 v0 h0 v1 h1 v2 h2 v3 h3 v4 h4 b hbf => ?_
                obtain rfl := h0; obtain rfl := h1; obtain rfl := h2; obtain rfl := h4
                obtain ⟨q3, f3⟩ := h3
                simp only [Act.put, List.setIfInBounds_toArray, List.set_cons_zero, List.set_cons_succ] at hbf
                subst hbf
                replace B1 := B1.below hb8
                replace k1s := k1s.below hb8
                replace k1d := k1d.below hb8
                replace k1z := k1z.below hb8
                replace k1 := k1.below hb8
                replace Be0 := Be0.below hb8
                replace ke0s := ke0s.below hb8
                replace ke0d := ke0d.below hb8
                replace ke0z := ke0z.below hb8
                replace ke0 := ke0.below hb8
                replace RN := RN.below hb8
                replace bb := bb.trans (hb8.mono bb.size)
                have hsz8 := bb.size
                have s_3 := sB
                obtain ⟨u3, t3, rfl, q3, d3⟩ := q3
                obtain ⟨A9, c9, rfl, _⟩ := id q3
                obtain ⟨D9, e9, rfl, _⟩ := id d3
                refine ops_store_q (j := 5) rfl rfl rfl rfl (g := g) (i := k) (q := (x - K * y)) rfl rfl (by kernel_rfl) RN hlt q3 d3 fun w9 hg9 hP9 => ?_
                replace k1s := RN.keep hg9 k1s
                replace k1d := RN.keep hg9 k1d
                replace k1z : IsZ w9 (.agg #[.bool (ngB (K).num), .slice A1 (digs 4294967296 (K).num.natAbs).length c1]) ((K).num) := ⟨_, rfl, k1s⟩
                replace k1 : IsQ w9 (.agg #[.bool (ngB (K).num), .slice A1 (digs 4294967296 (K).num.natAbs).length c1, .slice D1 (digs 4294967296 (K).den).length e1]) (K) := ⟨_, _, rfl, k1s, k1d⟩
                replace B1 := B1.grown hg9 (by omega)
                replace ke0s := RN.keep hg9 ke0s
                replace ke0d := RN.keep hg9 ke0d
                replace ke0z : IsZ w9 (.agg #[.bool (ngB (x).num), .slice Ae0 (digs 4294967296 (x).num.natAbs).length ce0]) ((x).num) := ⟨_, rfl, ke0s⟩
                replace ke0 : IsQ w9 (.agg #[.bool (ngB (x).num), .slice Ae0 (digs 4294967296 (x).num.natAbs).length ce0, .slice De0 (digs 4294967296 (x).den).length ee0]) (x) := ⟨_, _, rfl, ke0s, ke0d⟩
                replace Be0 := Be0.grown hg9 (by omega)
                replace bb := bb.trans ((Below.refl _ _).grown hg9 bb.size (fun g hg => by injection hg with hg; omega))
                have hsz9 := bb.size
                replace RN := hP9.1 HLK.out
                clear hP9
                refine ops_done ?_
                rw [← HTK.out] at RN
                have hsk : p.length - (k + 1) < p.length - k := by omega
                go_wp2
                go_roundw
                case rel => exact ⟨k + 1, by omega, RN, B1, bb, by go_num⟩
                case measure => simp [intOf]; omega
          · have HV : Hid (false = decide (K * y = 0)) := (decide_eq_false hv).symm
            clear hv
            have sB := bb.size
            go_upto_region 7 with (fail)
            refine flow 6 [Pd.eq (.agg #[.bool (ngB (K).num), .slice A1 (digs 4294967296 (K).num.natAbs).length c1, .slice D1 (digs 4294967296 (K).den).length e1]), Pd.eq (.slice (some ⟨g2_, o2_, none⟩) q.length c2), Pd.eq (.int .i64 (k : Int)), Pd.eq (.pointer (some ⟨g2_, o2_ + k * 3, none⟩)), Pd.eq (.agg #[.bool (ngB (y).num), .slice Ay (digs 4294967296 (y).num.natAbs).length cy, .slice Dy (digs 4294967296 (y).den).length ey]), Pd.eq (.bool false)] (by kernel_rfl) (by kernel_rfl) ?ob8 ?done8
            case ob8 =>
              refine And.intro (ob_load rfl (wt_none rfl) (ev_far rfl rfl) (fun w2 hb => run_loadAll Tryz.underlying28 rfl (by kernel_rfl) (B1.drew.below hb)) (fun _ _ => rfl)) ?_
              refine And.intro (ob_move rfl (wt_none rfl) (ev_far rfl rfl) (fun _ _ h => h)) ?_
              refine And.intro (ob_move rfl (wt_none rfl) (ev_far rfl rfl) (fun _ _ h => h)) ?_
              refine And.intro (ob_indexAddr rfl (wt_none rfl) (ev_dep (j := 1) (by kernel_rfl) rfl rfl) (ev_dep (j := 2) (by kernel_rfl) rfl rfl) (fun _ _ _ hx hy => ⟨_, by rw [hx, hy]; exact index3 (k := k) Tryz.underlying22 (by kernel_rfl) hlty _, rfl⟩)) ?_
              refine And.intro (ob_load rfl (wt_none rfl) (ev_dep (j := 3) (by kernel_rfl) rfl rfl) (fun w2 hb => load3 Tryz.underlying28 rfl (by kernel_rfl) ((hb.cell (World.block_lt_of_cell? w5 _ zy0)).trans zy0) ((hb.cell (World.block_lt_of_cell? w5 _ zy1)).trans zy1) ((hb.cell (World.block_lt_of_cell? w5 _ zy2)).trans zy2)) (fun _ _ => rfl)) ?_
              refine And.intro (ob_call2 rfl Tryz.func32 (by kernel_rfl) (wt_none rfl) (ev_dep (j := 0) (by kernel_rfl) rfl rfl) (ev_dep (j := 4) (by kernel_rfl) rfl rfl) (fun w2 u0 u1 hb h0 h1 => by obtain rfl := h0; obtain rfl := h1; exact (vanishes_any _ _ (K) (y) false _ (k1.drew.below hb) (zy.drew.below hb) HV.out).mono fun e w3 h => RetV.pd h)) ?_
              trivial
            case done8 =>
              refine fun w7 hb7 v0 h0 v1 h1 v2 h2 v3 h3 v4 h4 v5 h5 b hbf => ?_
              obtain rfl := h0; obtain rfl := h1; obtain rfl := h2; obtain rfl := h3; obtain rfl := h4; obtain rfl := h5
              simp only [Act.put, List.setIfInBounds_toArray, List.set_cons_zero, List.set_cons_succ] at hbf
              subst hbf
              replace B1 := B1.below hb7
              replace k1s := k1s.below hb7
              replace k1d := k1d.below hb7
              replace k1z := k1z.below hb7
              replace k1 := k1.below hb7
              replace Be0 := Be0.below hb7
              replace ke0s := ke0s.below hb7
              replace ke0d := ke0d.below hb7
              replace ke0z := ke0z.below hb7
              replace ke0 := ke0.below hb7
              replace RN := RN.below hb7
              replace bb := bb.trans (hb7.mono bb.size)
              have hsz7 := bb.size
              refine any_done (by kernel_rfl) ?_
              clear zy zy0 zy1 zy2 zys zyd
              obtain ⟨ub, tb, hltb, zb0, zb1, zb2, zbs, zbd⟩ := (sl2.below bb).at2 HY.out
              obtain ⟨Ab, cb, rfl, _⟩ := id zbs
              obtain ⟨Db, eb, rfl, _⟩ := id zbd
              have zb : IsQ w7 (.agg #[.bool (ngB (y).num), .slice Ab (digs 4294967296 (y).num.natAbs).length cb, .slice Db (digs 4294967296 (y).den).length eb]) (y) := ⟨_, _, rfl, zbs, zbd⟩
              have sB := bb.size
              go_upto_region 9 with (fail)
              refine flow 11 [Pd.eq (.slice (some ⟨g, 0, none⟩) p.length p.length), Pd.eq (.int .i64 (k : Int)), Pd.eq (.agg #[.bool (ngB (x).num), .slice Ae0 (digs 4294967296 (x).num.natAbs).length ce0, .slice De0 (digs 4294967296 (x).den).length ee0]), Pd.eq (.agg #[.bool (ngB (K).num), .slice A1 (digs 4294967296 (K).num.natAbs).length c1, .slice D1 (digs 4294967296 (K).den).length e1]), Pd.eq (.slice (some ⟨g2_, o2_, none⟩) q.length c2), Pd.eq (.int .i64 (k : Int)), Pd.eq (.pointer (some ⟨g2_, o2_ + k * 3, none⟩)), Pd.eq (.agg #[.bool (ngB (y).num), .slice Ab (digs 4294967296 (y).num.natAbs).length cb, .slice Db (digs 4294967296 (y).den).length eb]), pqn (K * y), pq ((x - K * y)) w7.heap.size, Pd.eq (.pointer (some ⟨g, 0 + k * 3, none⟩))] (by kernel_rfl) (by kernel_rfl) ?ob9 ?done9
              case ob9 =>
                refine And.intro (ob_move rfl (wt_none rfl) (ev_far rfl rfl) (fun _ _ h => h)) ?_
                refine And.intro (ob_move rfl (wt_none rfl) (ev_far rfl rfl) (fun _ _ h => h)) ?_
                refine And.intro (ob_load rfl (wt_none rfl) (ev_far rfl rfl) (fun w2 hb => run_loadAll Tryz.underlying28 rfl (by kernel_rfl) (Be0.drew.below hb)) (fun _ _ => rfl)) ?_
                refine And.intro (ob_load rfl (wt_none rfl) (ev_far rfl rfl) (fun w2 hb => run_loadAll Tryz.underlying28 rfl (by kernel_rfl) (B1.drew.below hb)) (fun _ _ => rfl)) ?_
                refine And.intro (ob_move rfl (wt_none rfl) (ev_far rfl rfl) (fun _ _ h => h)) ?_
                refine And.intro (ob_move rfl (wt_none rfl) (ev_far rfl rfl) (fun _ _ h => h)) ?_
                refine And.intro (ob_indexAddr rfl (wt_none rfl) (ev_dep (j := 4) (by kernel_rfl) rfl rfl) (ev_dep (j := 5) (by kernel_rfl) rfl rfl) (fun _ _ _ hx hy => ⟨_, by rw [hx, hy]; exact index3 (k := k) Tryz.underlying22 (by kernel_rfl) hltb _, rfl⟩)) ?_
                refine And.intro (ob_load rfl (wt_none rfl) (ev_dep (j := 6) (by kernel_rfl) rfl rfl) (fun w2 hb => load3 Tryz.underlying28 rfl (by kernel_rfl) ((hb.cell (World.block_lt_of_cell? w7 _ zb0)).trans zb0) ((hb.cell (World.block_lt_of_cell? w7 _ zb1)).trans zb1) ((hb.cell (World.block_lt_of_cell? w7 _ zb2)).trans zb2)) (fun _ _ => rfl)) ?_
                refine And.intro (ob_call2 rfl Tryz.func35 (by kernel_rfl) (wt_none rfl) (ev_dep (j := 3) (by kernel_rfl) rfl rfl) (ev_dep (j := 7) (by kernel_rfl) rfl rfl) (fun w2 u0 u1 hb h0 h1 => by obtain rfl := h0; obtain rfl := h1; exact (mul8_any _ K _ y _ (k1.drew.below hb) (zb.drew.below hb) (lK.mono (by decide)) (ly.mono (by decide))).mono fun e w3 h => RetQn.pd h.n)) ?_
                refine And.intro (ob_call2 rfl Tryz.func34 (by kernel_rfl) (wt_none rfl) (ev_dep (j := 2) (by kernel_rfl) rfl rfl) (ev_dep (j := 8) (by kernel_rfl) rfl rfl) (fun w2 u0 u1 hb h0 h1 => by obtain rfl := h0; exact (sub8_any _ x _ (K * y) _ (ke0.drew.below hb) h1 (lx.mono (by decide)) (lky.mono (by decide))).mono fun e w3 h => RetQ.pd h hb.size)) ?_
                refine And.intro (ob_indexAddr rfl (wt_none rfl) (ev_dep (j := 0) (by kernel_rfl) rfl rfl) (ev_dep (j := 1) (by kernel_rfl) rfl rfl) (fun _ _ _ hx hy => ⟨_, by rw [hx, hy]; exact index3 (k := k) Tryz.underlying22 (by kernel_rfl) hlt _, rfl⟩)) ?_
                trivial
              case done9 =>
                refine fun w8 hb8 v0 h0 v1 h1 v2 h2 v3 h3 v4 h4 v5 h5 v6 h6 v7 h7 v8 h8 v9 h9 v10 h10 b hbf => ?_
                obtain rfl := h0; obtain rfl := h1; obtain rfl := h2; obtain rfl := h3; obtain rfl := h4; obtain rfl := h5; obtain rfl := h6; obtain rfl := h7; obtain rfl := h10
                have q8 := h8
                obtain ⟨q9, f9⟩ := h9
                simp only [Act.put, List.setIfInBounds_toArray, List.set_cons_zero, List.set_cons_succ] at hbf
                subst hbf
                replace B1 := B1.below hb8
                replace k1s := k1s.below hb8
                replace k1d := k1d.below hb8
                replace k1z := k1z.below hb8
                replace k1 := k1.below hb8
                replace Be0 := Be0.below hb8
                replace ke0s := ke0s.below hb8
                replace ke0d := ke0d.below hb8
                replace ke0z := ke0z.below hb8
                replace ke0 := ke0.below hb8
                replace RN := RN.below hb8
                replace bb := bb.trans (hb8.mono bb.size)
                have hsz8 := bb.size
                have s_9 := sB
                obtain ⟨u9, t9, rfl, q9, d9⟩ := q9
                obtain ⟨A9, c9, rfl, _⟩ := id q9
                obtain ⟨D9, e9, rfl, _⟩ := id d9
                refine any_store_q (j := 11) (by kernel_rfl) rfl rfl rfl rfl (g := g) (i := k) (q := (x - K * y)) rfl rfl (by kernel_rfl) RN hlt q9 d9 fun w9 hg9 hP9 => ?_
                replace k1s := RN.keep hg9 k1s
                replace k1d := RN.keep hg9 k1d
                replace k1z : IsZ w9 (.agg #[.bool (ngB (K).num), .slice A1 (digs 4294967296 (K).num.natAbs).length c1]) ((K).num) := ⟨_, rfl, k1s⟩
                replace k1 : IsQ w9 (.agg #[.bool (ngB (K).num), .slice A1 (digs 4294967296 (K).num.natAbs).length c1, .slice D1 (digs 4294967296 (K).den).length e1]) (K) := ⟨_, _, rfl, k1s, k1d⟩
                replace B1 := B1.grown hg9 (by omega)
                replace ke0s := RN.keep hg9 ke0s
                replace ke0d := RN.keep hg9 ke0d
                replace ke0z : IsZ w9 (.agg #[.bool (ngB (x).num), .slice Ae0 (digs 4294967296 (x).num.natAbs).length ce0]) ((x).num) := ⟨_, rfl, ke0s⟩
                replace ke0 : IsQ w9 (.agg #[.bool (ngB (x).num), .slice Ae0 (digs 4294967296 (x).num.natAbs).length ce0, .slice De0 (digs 4294967296 (x).den).length ee0]) (x) := ⟨_, _, rfl, ke0s, ke0d⟩
                replace Be0 := Be0.grown hg9 (by omega)
                replace bb := bb.trans ((Below.refl _ _).grown hg9 bb.size (fun g hg => by injection hg with hg; omega))
                have hsz9 := bb.size
                replace RN := hP9.1 HLK.out
                clear hP9
                refine any_done (by kernel_rfl) ?_
                rw [← HTK.out] at RN
                have hsk : p.length - (k + 1) < p.length - k := by omega
                go_wp2
                go_roundw
                case rel => exact ⟨k + 1, by omega, RN, B1, bb, by go_num⟩
                case measure => simp [intOf]; omega
      · rw [List.take_of_length_le (by rw [HRL.out]; omega)] at RN
        have hS := RN.sl HRL.out (by omega)
        clear RN
        go_wp2
        go_ret2
        exact ⟨_, rfl, by rw [if_pos rfl]; exact hS, bb⟩
set_option maxHeartbeats 3200000 in
set_option maxRecDepth 100000 in
theorem eqf_any (a0 a1 : Value) (p q : List Rat) (b : Bool) (w : World) (h0 : SlF .u64 4294967296 w a0 p) (h1 : SlF .u64 4294967296 w a1 q) (hb : b = decide (p = q)) :
    Calls Tryz.prog 45 #[a0, a1, .func (.func 38) #[] #[]] w (RetV (.bool b) w) := by
  have bb : Below w.heap.size w w := Below.refl _ _
  have sl0 := h0
  obtain ⟨A0, c0, rfl, hc0, hm0⟩ := h0.shape
  unfold maxLen at hm0
  have sl1 := h1
  obtain ⟨A1, c1, rfl, hc1, hm1⟩ := h1.shape
  unfold maxLen at hm1
  have HB := Lib.hid hb
  clear hb
  go_enter Tryz.func45, Tryz.ntmps45
  go_upto_region 1 with (fail)
  have hsz0 := bb.size
  by_cases he : p.length = q.length
  · have HNE : Hid ((((p.length : Nat) : Int) != ((q.length : Nat) : Int)) = false) := by show _ = _; rw [bne_eq_false_iff_eq]; omega
    have HE := Lib.hid he
    clear he
    have sB := bb.size
    refine flowp 5 [Pd.eq (.slice A0 p.length c0), Pd.eq (.int .i64 ((p.length : Nat) : Int)), Pd.eq (.slice A1 q.length c1), Pd.eq (.int .i64 ((q.length : Nat) : Int)), Pd.eq (.bool false)] (by kernel_rfl) ?ob11 ?done11
    case ob11 =>
      refine And.intro (ob_move rfl (wt_none rfl) (ev_far rfl rfl) (fun _ _ h => h)) ?_
      refine And.intro (ob_len rfl (wt_none rfl) (ev_dep (j := 0) (by kernel_rfl) rfl rfl) (fun _ _ hx => ⟨_, by rw [hx]; exact len_slice Tryz.underlying22 _ _ _ _, rfl⟩)) ?_
      refine And.intro (ob_move rfl (wt_none rfl) (ev_far rfl rfl) (fun _ _ h => h)) ?_
      refine And.intro (ob_len rfl (wt_none rfl) (ev_dep (j := 2) (by kernel_rfl) rfl rfl) (fun _ _ hx => ⟨_, by rw [hx]; exact len_slice Tryz.underlying22 _ _ _ _, rfl⟩)) ?_
      refine And.intro (ob_bin rfl (wt_none rfl) (ev_dep (j := 1) (by kernel_rfl) rfl rfl) (ev_dep (j := 3) (by kernel_rfl) rfl rfl) (fun _ _ _ hx hy => ⟨.bool false, by rw [hx, hy, bin_neq_int, HNE.out], rfl⟩)) ?_
      trivial
    case done11 =>
      refine fun w2 hb2 v0 h0 v1 h1 v2 h2 v3 h3 v4 h4 b hbf => ?_
      obtain rfl := h0; obtain rfl := h1; obtain rfl := h2; obtain rfl := h3; obtain rfl := h4
      simp only [Act.put, List.setIfInBounds_toArray, List.set_cons_zero, List.set_cons_succ] at hbf
      subst hbf
      replace bb := bb.trans (hb2.mono bb.size)
      have hsz2 := bb.size
      refine ops_done ?_
      go_wp2
      go_loopw [17] (fun v17 wr => ∃ k : Nat, k ≤ p.length ∧ Hid (p.take k = q.take k) ∧ Below w.heap.size w wr ∧ v17 = .int .i64 (k : Int)) (fun v17 _ => p.length - (intOf v17).toNat)
      case atStart => exact ⟨0, by omega, rfl, bb, rfl⟩
      case round =>
        obtain ⟨k, hk, HA, hbw, rfl⟩ := hrel
        clear bb
        have bb := hbw
        clear hbw
        have hszr := bb.size
        by_cases hlt : k < p.length
        · have hlt2 : k < q.length := by have := HE.out; omega
          have hneq : q ≠ [] := List.length_pos_iff.1 (by omega)
          obtain ⟨y, hy⟩ : ∃ y, q[k]? = some y := ⟨_, List.getElem?_eq_getElem hlt2⟩
          have HY := Lib.hid hy
          clear hy
          obtain ⟨x, hq0_⟩ : ∃ x, p[k]? = some x := ⟨_, List.getElem?_eq_getElem hlt⟩
          obtain ⟨g0_, o0_, ue0, te0, hA0_, _, e00, e01, e02, es0, ed0⟩ := (sl0.below bb).at_ hq0_
          subst hA0_
          have HQ0 := Lib.hid hq0_
          clear hq0_
          obtain ⟨Ae0, ce0, rfl, _⟩ := id es0
          obtain ⟨De0, ee0, rfl, _⟩ := id ed0
          have ke0 : IsQ wr (.agg #[.bool (ngB x.num), .slice Ae0 (digs 4294967296 x.num.natAbs).length ce0, .slice De0 (digs 4294967296 x.den).length ee0]) x := ⟨_, _, rfl, es0, ed0⟩
          have sB := bb.size
          go_upto_region 5 with (fail)
          refine flowp 5 [Pd.eq (.int .i64 (k : Int)), Pd.eq (.pointer (some ⟨g0_, o0_ + k * 3, none⟩)), Pd.eq (.agg #[.bool (ngB x.num), .slice Ae0 (digs 4294967296 x.num.natAbs).length ce0, .slice De0 (digs 4294967296 x.den).length ee0]), pn 28 #[.bool false, .slice none 0 0, .slice none 0 0] wr.heap.size, Pd.eq (.int .i64 (k : Int))] (by kernel_rfl) ?ob12 ?done12
          case ob12 =>
            refine And.intro (ob_move rfl (wt_none rfl) (ev_far rfl rfl) (fun _ _ h => h)) ?_
            refine And.intro (ob_indexAddr rfl (wt_none rfl) (ev_far rfl rfl) (ev_far rfl rfl) (fun _ _ _ hx hy => ⟨_, by rw [hx, hy]; exact index3 Tryz.underlying22 (by kernel_rfl) hlt _, rfl⟩)) ?_
            refine And.intro (ob_load rfl (wt_none rfl) (ev_dep (j := 1) (by kernel_rfl) rfl rfl) (fun w2 hb => load3 Tryz.underlying28 rfl (by kernel_rfl) ((hb.cell (World.block_lt_of_cell? wr _ e00)).trans e00) ((hb.cell (World.block_lt_of_cell? wr _ e01)).trans e01) ((hb.cell (World.block_lt_of_cell? wr _ e02)).trans e02)) (fun _ _ => rfl)) ?_
            refine And.intro (ob_alloc (z := .agg #[.bool false, .slice none 0 0, .slice none 0 0]) rfl rfl (fun _ => by kernel_rfl) (fun _ _ hB h => ⟨_, rfl, hB, h⟩)) ?_
            refine And.intro (ob_assign rfl (wt_none rfl) (ev_dep (j := 0) (by kernel_rfl) rfl rfl) (fun _ _ h => h)) ?_
            trivial
          case done12 =>
            refine fun w4 hb4 v0 h0 v1 h1 v2 h2 v3 h3 d3 v4 h4 b hbf => ?_
            obtain rfl := h0; obtain rfl := h1; obtain rfl := h2; obtain rfl := h4
            obtain ⟨g12_3, rfl, hg3, B3⟩ := h3
            simp only [Act.put, List.setIfInBounds_toArray, List.set_cons_zero, List.set_cons_succ] at hbf
            subst hbf
            replace es0 := es0.below hb4
            replace ed0 := ed0.below hb4
            replace bb := bb.trans (hb4.mono bb.size)
            have hsz4 := bb.size
            have BA8 := B3
            have q2 := es0
            have d2 := ed0
            refine ops_store (i := 5) rfl rfl rfl rfl rfl rfl (cells := [.bool (ngB (x).num), .slice Ae0 (digs 4294967296 (x).num.natAbs).length ce0, .slice De0 (digs 4294967296 (x).den).length ee0]) rfl BA8 rfl (by kernel_rfl) (one3 rfl rfl rfl) fun w5 hg5 BN5 => ?_
            replace q2 := off q2 BA8 no_ints3 hg5
            replace d2 := off d2 BA8 no_ints3 hg5
            replace bb := bb.trans ((Below.refl _ _).grown hg5 bb.size (fun g hg => by injection hg with hg; omega))
            have hsz5 := bb.size
            have Be0 : Blk w5 (g12_3) _ _ := BN5
            have ke0s := q2
            have ke0d := d2
            have ke0z : IsZ w5 (.agg #[.bool (ngB (x).num), .slice Ae0 (digs 4294967296 (x).num.natAbs).length ce0]) ((x).num) := ⟨_, rfl, ke0s⟩
            have ke0 : IsQ w5 (.agg #[.bool (ngB (x).num), .slice Ae0 (digs 4294967296 (x).num.natAbs).length ce0, .slice De0 (digs 4294967296 (x).den).length ee0]) (x) := ⟨_, _, rfl, ke0s, ke0d⟩
            refine ops_done ?_
            obtain ⟨g1_, o1_, cp1_, hA1_, _, _, _⟩ := sl1.place hneq
            injection hA1_ with e1_ _ e3_
            subst e1_
            subst e3_
            obtain ⟨uy, ty, hlty, zy0, zy1, zy2, zys, zyd⟩ := (sl1.below bb).at2 HY.out
            obtain ⟨Ay, cy, rfl, _⟩ := id zys
            obtain ⟨Dy, ey, rfl, _⟩ := id zyd
            have zy : IsQ w5 (.agg #[.bool (ngB (y).num), .slice Ay (digs 4294967296 (y).num.natAbs).length cy, .slice Dy (digs 4294967296 (y).den).length ey]) (y) := ⟨_, _, rfl, zys, zyd⟩
            have sB := bb.size
            go_upto_region 6 with (fail)
            have lt5_8 := Blk.lt Be0
            refine flowp 5 [Pd.eq (.slice (some ⟨g1_, o1_, none⟩) q.length c1), Pd.eq (.int .i64 (k : Int)), Pd.eq (.pointer (some ⟨g1_, o1_ + k * 3, none⟩)), Pd.eq (.agg #[.bool (ngB (y).num), .slice Ay (digs 4294967296 (y).num.natAbs).length cy, .slice Dy (digs 4294967296 (y).den).length ey]), pn 28 #[.bool false, .slice none 0 0, .slice none 0 0] w5.heap.size] (by kernel_rfl) ?ob13 ?done13
            case ob13 =>
              refine And.intro (ob_move rfl (wt_none rfl) (ev_far rfl rfl) (fun _ _ h => h)) ?_
              refine And.intro (ob_move rfl (wt_none rfl) (ev_far rfl rfl) (fun _ _ h => h)) ?_
              refine And.intro (ob_indexAddr rfl (wt_none rfl) (ev_dep (j := 0) (by kernel_rfl) rfl rfl) (ev_dep (j := 1) (by kernel_rfl) rfl rfl) (fun _ _ _ hx hy => ⟨_, by rw [hx, hy]; exact index3 (k := k) Tryz.underlying22 (by kernel_rfl) hlty _, rfl⟩)) ?_
              refine And.intro (ob_load rfl (wt_none rfl) (ev_dep (j := 2) (by kernel_rfl) rfl rfl) (fun w2 hb => load3 Tryz.underlying28 rfl (by kernel_rfl) ((hb.cell (World.block_lt_of_cell? w5 _ zy0)).trans zy0) ((hb.cell (World.block_lt_of_cell? w5 _ zy1)).trans zy1) ((hb.cell (World.block_lt_of_cell? w5 _ zy2)).trans zy2)) (fun _ _ => rfl)) ?_
              refine And.intro (ob_alloc (z := .agg #[.bool false, .slice none 0 0, .slice none 0 0]) rfl rfl (fun _ => by kernel_rfl) (fun _ _ hB h => ⟨_, rfl, hB, h⟩)) ?_
              trivial
            case done13 =>
              refine fun w6 hb6 v0 h0 v1 h1 v2 h2 v3 h3 v4 h4 d4 b hbf => ?_
              obtain rfl := h0; obtain rfl := h1; obtain rfl := h2; obtain rfl := h3
              obtain ⟨g13_4, rfl, hg4, B4⟩ := h4
              simp only [Act.put, List.setIfInBounds_toArray, List.set_cons_zero, List.set_cons_succ] at hbf
              subst hbf
              replace Be0 := Be0.below hb6
              replace ke0s := ke0s.below hb6
              replace ke0d := ke0d.below hb6
              replace ke0z := ke0z.below hb6
              replace ke0 := ke0.below hb6
              replace zys := zys.below hb6
              replace zyd := zyd.below hb6
              replace bb := bb.trans (hb6.mono bb.size)
              have hsz6 := bb.size
              have BA9 := B4
              have q3 := zys
              have d3 := zyd
              refine ops_store (i := 5) rfl rfl rfl rfl rfl rfl (cells := [.bool (ngB (y).num), .slice Ay (digs 4294967296 (y).num.natAbs).length cy, .slice Dy (digs 4294967296 (y).den).length ey]) rfl BA9 rfl (by kernel_rfl) (one3 rfl rfl rfl) fun w7 hg7 BN7 => ?_
              replace q3 := off q3 BA9 no_ints3 hg7
              replace d3 := off d3 BA9 no_ints3 hg7
              replace ke0s := off ke0s BA9 no_ints3 hg7
              replace ke0d := off ke0d BA9 no_ints3 hg7
              replace ke0z : IsZ w7 (.agg #[.bool (ngB (x).num), .slice Ae0 (digs 4294967296 (x).num.natAbs).length ce0]) ((x).num) := ⟨_, rfl, ke0s⟩
              replace ke0 : IsQ w7 (.agg #[.bool (ngB (x).num), .slice Ae0 (digs 4294967296 (x).num.natAbs).length ce0, .slice De0 (digs 4294967296 (x).den).length ee0]) (x) := ⟨_, _, rfl, ke0s, ke0d⟩
              replace Be0 := Be0.grown hg7 (by omega)
              replace bb := bb.trans ((Below.refl _ _).grown hg7 bb.size (fun g hg => by injection hg with hg; omega))
              have hsz7 := bb.size
              have By : Blk w7 (g13_4) _ _ := BN7
              have kys := q3
              have kyd := d3
              have kyz : IsZ w7 (.agg #[.bool (ngB (y).num), .slice Ay (digs 4294967296 (y).num.natAbs).length cy]) ((y).num) := ⟨_, rfl, kys⟩
              have ky : IsQ w7 (.agg #[.bool (ngB (y).num), .slice Ay (digs 4294967296 (y).num.natAbs).length cy, .slice Dy (digs 4294967296 (y).den).length ey]) (y) := ⟨_, _, rfl, kys, kyd⟩
              refine ops_done ?_
              obtain ⟨u, hu⟩ : ∃ u, u = decide (x = y) := ⟨_, rfl⟩
              have HU := Lib.hid hu
              by_cases hxy : x = y
              · have HA2 : Hid (p.take (k + 1) = q.take (k + 1)) := by show _ = _; rw [take_snoc HQ0.out, take_snoc HY.out, HA.out, hxy]
                rw [decide_eq_true hxy] at hu
                subst hu
                clear hxy
                have sB := bb.size
                go_upto_region 7 with (fail)
                refine flowp 5 [Pd.eq (.func (.func 38) #[] #[]), Pd.eq (.agg #[.bool (ngB (x).num), .slice Ae0 (digs 4294967296 (x).num.natAbs).length ce0, .slice De0 (digs 4294967296 (x).den).length ee0]), Pd.eq (.agg #[.bool (ngB (y).num), .slice Ay (digs 4294967296 (y).num.natAbs).length cy, .slice Dy (digs 4294967296 (y).den).length ey]), Pd.eq (.bool true), Pd.eq (.bool false)] (by kernel_rfl) ?ob14 ?done14
                case ob14 =>
                  refine And.intro (ob_move rfl (wt_none rfl) (ev_far rfl rfl) (fun _ _ h => h)) ?_
                  refine And.intro (ob_load rfl (wt_none rfl) (ev_far rfl rfl) (fun w2 hb => run_loadAll Tryz.underlying28 rfl (by kernel_rfl) (Be0.below hb)) (fun _ _ => rfl)) ?_
                  refine And.intro (ob_load rfl (wt_none rfl) (ev_far rfl rfl) (fun w2 hb => run_loadAll Tryz.underlying28 rfl (by kernel_rfl) (By.below hb)) (fun _ _ => rfl)) ?_
                  refine And.intro (ob_callv2 rfl (ev_dep (j := 0) (by kernel_rfl) rfl rfl) Tryz.func38 (by kernel_rfl) (wt_none rfl) (ev_dep (j := 1) (by kernel_rfl) rfl rfl) (ev_dep (j := 2) (by kernel_rfl) rfl rfl) (fun w2 u0 u1 hb h0 h1 => by obtain rfl := h0; obtain rfl := h1; exact (same8_any _ _ x y true _ (ke0.below hb) (ky.below hb) HU.out).mono fun e w3 h => RetV.pd h)) ?_
                  refine And.intro (ob_un rfl (wt_none rfl) (ev_dep (j := 3) (by kernel_rfl) rfl rfl) (fun _ => un_not _ _) (fun _ => rfl)) ?_
                  trivial
                case done14 =>
                  refine fun w9 hb9 v0 h0 v1 h1 v2 h2 v3 h3 v4 h4 b hbf => ?_
                  obtain rfl := h0; obtain rfl := h1; obtain rfl := h2; obtain rfl := h3; obtain rfl := h4
                  simp only [Act.put, List.setIfInBounds_toArray, List.set_cons_zero, List.set_cons_succ] at hbf
                  subst hbf
                  replace Be0 := Be0.below hb9
                  replace ke0s := ke0s.below hb9
                  replace ke0d := ke0d.below hb9
                  replace ke0z := ke0z.below hb9
                  replace ke0 := ke0.below hb9
                  replace By := By.below hb9
                  replace kys := kys.below hb9
                  replace kyd := kyd.below hb9
                  replace kyz := kyz.below hb9
                  replace ky := ky.below hb9
                  replace bb := bb.trans (hb9.mono bb.size)
                  have hsz9 := bb.size
                  refine ops_done ?_
                  have hsk : p.length - (k + 1) < p.length - k := by omega
                  go_wp2
                  go_roundw
                  case rel => exact ⟨k + 1, by omega, HA2, bb, by go_num⟩
                  case measure => simp [intOf]; omega
              · have HW : Hid (b = false) := by
                  show _ = _
                  rw [HB.out]
                  refine decide_eq_false fun e => ?_
                  have h0 := HQ0.out
                  rw [e, HY.out] at h0
                  exact hxy (Option.some.inj h0).symm
                rw [decide_eq_false hxy] at hu
                subst hu
                clear hxy
                have sB := bb.size
                go_upto_region 7 with (fail)
                refine flowp 5 [Pd.eq (.func (.func 38) #[] #[]), Pd.eq (.agg #[.bool (ngB (x).num), .slice Ae0 (digs 4294967296 (x).num.natAbs).length ce0, .slice De0 (digs 4294967296 (x).den).length ee0]), Pd.eq (.agg #[.bool (ngB (y).num), .slice Ay (digs 4294967296 (y).num.natAbs).length cy, .slice Dy (digs 4294967296 (y).den).length ey]), Pd.eq (.bool false), Pd.eq (.bool true)] (by kernel_rfl) ?ob15 ?done15
                case ob15 =>
                  refine And.intro (ob_move rfl (wt_none rfl) (ev_far rfl rfl) (fun _ _ h => h)) ?_
                  refine And.intro (ob_load rfl (wt_none rfl) (ev_far rfl rfl) (fun w2 hb => run_loadAll Tryz.underlying28 rfl (by kernel_rfl) (Be0.below hb)) (fun _ _ => rfl)) ?_
                  refine And.intro (ob_load rfl (wt_none rfl) (ev_far rfl rfl) (fun w2 hb => run_loadAll Tryz.underlying28 rfl (by kernel_rfl) (By.below hb)) (fun _ _ => rfl)) ?_
                  refine And.intro (ob_callv2 rfl (ev_dep (j := 0) (by kernel_rfl) rfl rfl) Tryz.func38 (by kernel_rfl) (wt_none rfl) (ev_dep (j := 1) (by kernel_rfl) rfl rfl) (ev_dep (j := 2) (by kernel_rfl) rfl rfl) (fun w2 u0 u1 hb h0 h1 => by obtain rfl := h0; obtain rfl := h1; exact (same8_any _ _ x y false _ (ke0.below hb) (ky.below hb) HU.out).mono fun e w3 h => RetV.pd h)) ?_
                  refine And.intro (ob_un rfl (wt_none rfl) (ev_dep (j := 3) (by kernel_rfl) rfl rfl) (fun _ => un_not _ _) (fun _ => rfl)) ?_
                  trivial
                case done15 =>
                  refine fun w9 hb9 v0 h0 v1 h1 v2 h2 v3 h3 v4 h4 b hbf => ?_
                  obtain rfl := h0; obtain rfl := h1; obtain rfl := h2; obtain rfl := h3; obtain rfl := h4
                  simp only [Act.put, List.setIfInBounds_toArray, List.set_cons_zero, List.set_cons_succ] at hbf
                  subst hbf
                  replace Be0 := Be0.below hb9
                  replace ke0s := ke0s.below hb9
                  replace ke0d := ke0d.below hb9
                  replace ke0z := ke0z.below hb9
                  replace ke0 := ke0.below hb9
                  replace By := By.below hb9
                  replace kys := kys.below hb9
                  replace kyd := kyd.below hb9
                  replace kyz := kyz.below hb9
                  replace ky := ky.below hb9
                  replace bb := bb.trans (hb9.mono bb.size)
                  have hsz9 := bb.size
                  refine ops_done ?_
                  go_wp2
                  go_ret
                  exact ⟨by rw [HW.out]; rfl, bb⟩
        · have HW : Hid (b = true) := by
            show _ = _
            rw [HB.out]
            have := HA.out
            rw [List.take_of_length_le (by omega), List.take_of_length_le (by have := HE.out; omega)] at this
            exact decide_eq_true this
          go_wp2
          go_ret
          exact ⟨by rw [HW.out]; rfl, bb⟩
  · have HNE : Hid ((((p.length : Nat) : Int) != ((q.length : Nat) : Int)) = true) := by show _ = _; rw [bne_iff_ne]; omega
    have HW : Hid (b = false) := by show _ = _; rw [HB.out]; exact decide_eq_false fun e => he (by rw [e])
    clear he
    have sB := bb.size
    refine flowp 5 [Pd.eq (.slice A0 p.length c0), Pd.eq (.int .i64 ((p.length : Nat) : Int)), Pd.eq (.slice A1 q.length c1), Pd.eq (.int .i64 ((q.length : Nat) : Int)), Pd.eq (.bool true)] (by kernel_rfl) ?ob10 ?done10
    case ob10 =>
      refine And.intro (ob_move rfl (wt_none rfl) (ev_far rfl rfl) (fun _ _ h => h)) ?_
      refine And.intro (ob_len rfl (wt_none rfl) (ev_dep (j := 0) (by kernel_rfl) rfl rfl) (fun _ _ hx => ⟨_, by rw [hx]; exact len_slice Tryz.underlying22 _ _ _ _, rfl⟩)) ?_
      refine And.intro (ob_move rfl (wt_none rfl) (ev_far rfl rfl) (fun _ _ h => h)) ?_
      refine And.intro (ob_len rfl (wt_none rfl) (ev_dep (j := 2) (by kernel_rfl) rfl rfl) (fun _ _ hx => ⟨_, by rw [hx]; exact len_slice Tryz.underlying22 _ _ _ _, rfl⟩)) ?_
      refine And.intro (ob_bin rfl (wt_none rfl) (ev_dep (j := 1) (by kernel_rfl) rfl rfl) (ev_dep (j := 3) (by kernel_rfl) rfl rfl) (fun _ _ _ hx hy => ⟨.bool true, by rw [hx, hy, bin_neq_int, HNE.out], rfl⟩)) ?_
      trivial
    case done10 =>
      refine fun w2 hb2 v0 h0 v1 h1 v2 h2 v3 h3 v4 h4 b hbf => ?_
      obtain rfl := h0; obtain rfl := h1; obtain rfl := h2; obtain rfl := h3; obtain rfl := h4
      simp only [Act.put, List.setIfInBounds_toArray, List.set_cons_zero, List.set_cons_succ] at hbf
      subst hbf
      replace bb := bb.trans (hb2.mono bb.size)
      have hsz2 := bb.size
      refine ops_done ?_
      go_wp2
      go_ret
      exact ⟨by rw [HW.out]; rfl, bb⟩
set_option maxHeartbeats 1600000 in
set_option maxRecDepth 100000 in
theorem fvsame_any (a0 a1 : Value) (p q : List Rat) (b : Bool) (w : World) (h0 : SlF .u64 4294967296 w a0 p) (h1 : SlF .u64 4294967296 w a1 q) (hl : p.length ≤ 8 ∧ (∀ x ∈ p, lenQ x 3) ∧ ∀ x ∈ q, lenQ x 3) (hb : b = decide (p = q)) :
    Calls Tryz.prog 21 #[a0, a1] w (RetV (.bool b) w) := by
  have bb : Below w.heap.size w w := Below.refl _ _
  have sl0 := h0
  obtain ⟨A0, c0, rfl, hc0, hm0⟩ := h0.shape
  unfold maxLen at hm0
  have sl1 := h1
  obtain ⟨A1, c1, rfl, hc1, hm1⟩ := h1.shape
  unfold maxLen at hm1
  have HB := Lib.hid hb
  clear hb
  go_enter Tryz.func21, Tryz.ntmps21
  go_upto_region 1 with (fail)
  have hsz0 := bb.size
  have k0 := sl0.below bb
  have k1 := sl1.below bb
  have sB := bb.size
  refine flowp 4 [Pd.eq (.slice A0 p.length c0), Pd.eq (.slice A1 q.length c1), Pd.eq (.bool b), Pd.eq (.bool b)] (by kernel_rfl) ?ob16 ?done16
  case ob16 =>
    refine And.intro (ob_move rfl (wt_none rfl) (ev_far rfl rfl) (fun _ _ h => h)) ?_
    refine And.intro (ob_move rfl (wt_none rfl) (ev_far rfl rfl) (fun _ _ h => h)) ?_
    refine And.intro (ob_call3 rfl Tryz.func45 (by kernel_rfl) (wt_none rfl) (ev_dep (j := 0) (by kernel_rfl) rfl rfl) (ev_dep (j := 1) (by kernel_rfl) rfl rfl) (ev_func _) (fun w2 u0 u1 u2 hb h0 h1 h2 => by obtain rfl := h0; obtain rfl := h1; obtain rfl := h2; exact (eqf_any _ _ p q b _ (k0.below hb) (k1.below hb) HB.out).mono fun e w3 h => RetV.pd h)) ?_
    refine And.intro (ob_assign rfl (wt_none rfl) (ev_dep (j := 2) (by kernel_rfl) rfl rfl) (fun _ _ h => h)) ?_
    trivial
  case done16 =>
    refine fun w1 hb1 v0 h0 v1 h1 v2 h2 v3 h3 b hbf => ?_
    obtain rfl := h0; obtain rfl := h1; obtain rfl := h2; obtain rfl := h3
    simp only [Act.put, List.setIfInBounds_toArray, List.set_cons_zero, List.set_cons_succ] at hbf
    subst hbf
    replace bb := bb.trans (hb1.mono bb.size)
    have hsz1 := bb.size
    refine ops_done ?_
    go_wp2
    go_ret
    exact ⟨rfl, bb⟩
set_option maxHeartbeats 3200000 in
set_option maxRecDepth 100000 in
theorem fgreatest_any (a0 : Value) (p : List Rat) (n : Int) (b : Bool) (w : World) (h0 : SlF .u64 4294967296 w a0 p) (hl : p.length ≤ 8 ∧ ∀ x ∈ p, lenQ x 3) (hn : n = (topq p : Int)) (hb : b = decide (0 < p.length)) :
    Calls Tryz.prog 18 #[a0] w (RetV (.tuple #[.int .i64 n, .bool b]) w) := by
  have bb : Below w.heap.size w w := Below.refl _ _
  have sl0 := h0
  obtain ⟨A0, c0, rfl, hc0, hm0⟩ := h0.shape
  unfold maxLen at hm0
  have HN := Lib.hid hn
  have HB := Lib.hid hb
  have HL := Lib.hid hl
  clear hn hb hl
  go_enter Tryz.func18, Tryz.ntmps18
  go_upto_region 1 with (fail)
  have hsz0 := bb.size
  by_cases hp : p.length = 0
  · have HZ : Hid ((((p.length : Nat) : Int) == 0) = true) := by show _ = _; rw [beq_iff_eq]; omega
    have HW1 : Hid (n = 0) := by show _ = _; rw [HN.out, topq, show p.length = 0 by omega]; rfl
    have HW2 : Hid (b = false) := by show _ = _; rw [HB.out]; exact decide_eq_false (by omega)
    clear hp
    have sB := bb.size
    refine flowp 3 [Pd.eq (.slice A0 p.length c0), Pd.eq (.int .i64 ((p.length : Nat) : Int)), Pd.eq (.bool true)] (by kernel_rfl) ?ob17 ?done17
    case ob17 =>
      refine And.intro (ob_move rfl (wt_none rfl) (ev_far rfl rfl) (fun _ _ h => h)) ?_
      refine And.intro (ob_len rfl (wt_none rfl) (ev_dep (j := 0) (by kernel_rfl) rfl rfl) (fun _ _ hx => ⟨_, by rw [hx]; exact len_slice Tryz.underlying22 _ _ _ _, rfl⟩)) ?_
      refine And.intro (ob_bin rfl (wt_none rfl) (ev_dep (j := 1) (by kernel_rfl) rfl rfl) (ev_const _) (fun _ _ _ hx hy => ⟨.bool true, by rw [hx, hy, bin_eql_int, HZ.out], rfl⟩)) ?_
      trivial
    case done17 =>
      refine fun w2 hb2 v0 h0 v1 h1 v2 h2 b hbf => ?_
      obtain rfl := h0; obtain rfl := h1; obtain rfl := h2
      simp only [Act.put, List.setIfInBounds_toArray, List.set_cons_zero, List.set_cons_succ] at hbf
      subst hbf
      replace bb := bb.trans (hb2.mono bb.size)
      have hsz2 := bb.size
      refine ops_done ?_
      go_wp2
      go_ret2
      exact ⟨by rw [HW1.out, HW2.out]; rfl, bb⟩
  · have HZ : Hid ((((p.length : Nat) : Int) == 0) = false) := by show _ = _; rw [beq_eq_false_iff_ne]; omega
    have HW2 : Hid (b = true) := by show _ = _; rw [HB.out]; exact decide_eq_true (by omega)
    have hpl : 0 < p.length := by omega
    have hne : p ≠ [] := List.length_pos_iff.1 hpl
    clear hp
    obtain ⟨g0_, o0_, cp0_, hA0_, _, _, _⟩ := sl0.place hne
    injection hA0_ with e1_ _ e3_
    subst e1_
    subst e3_
    have sB := bb.size
    refine flowp 3 [Pd.eq (.slice (some ⟨g0_, o0_, none⟩) p.length c0), Pd.eq (.int .i64 ((p.length : Nat) : Int)), Pd.eq (.bool false)] (by kernel_rfl) ?ob18 ?done18
    case ob18 =>
      refine And.intro (ob_move rfl (wt_none rfl) (ev_far rfl rfl) (fun _ _ h => h)) ?_
      refine And.intro (ob_len rfl (wt_none rfl) (ev_dep (j := 0) (by kernel_rfl) rfl rfl) (fun _ _ hx => ⟨_, by rw [hx]; exact len_slice Tryz.underlying22 _ _ _ _, rfl⟩)) ?_
      refine And.intro (ob_bin rfl (wt_none rfl) (ev_dep (j := 1) (by kernel_rfl) rfl rfl) (ev_const _) (fun _ _ _ hx hy => ⟨.bool false, by rw [hx, hy, bin_eql_int, HZ.out], rfl⟩)) ?_
      trivial
    case done18 =>
      refine fun w2 hb2 v0 h0 v1 h1 v2 h2 b hbf => ?_
      obtain rfl := h0; obtain rfl := h1; obtain rfl := h2
      simp only [Act.put, List.setIfInBounds_toArray, List.set_cons_zero, List.set_cons_succ] at hbf
      subst hbf
      replace bb := bb.trans (hb2.mono bb.size)
      have hsz2 := bb.size
      refine ops_done ?_
      go_wp2
      go_loopw [4, 12] (fun v4 v12 wr => ∃ j i : Nat, j ≤ p.length ∧ Hid (i = bestq p j) ∧ Below w.heap.size w wr ∧ v4 = .int .i64 (i : Int) ∧ v12 = .int .i64 (j : Int)) (fun _ v12 _ => p.length - (intOf v12).toNat)
      case atStart => exact ⟨0, 0, by omega, rfl, bb, rfl, rfl⟩
      case round =>
        obtain ⟨j, i, hj, HI, hbw, rfl, rfl⟩ := hrel
        clear bb
        have bb := hbw
        clear hbw
        have hszr := bb.size
        by_cases hlt : j < p.length
        · have hilt : i < p.length := by have := HI.out; rcases bestq_lt p j with h | h <;> omega
          obtain ⟨x, hx⟩ : ∃ x, p[j]? = some x := ⟨_, List.getElem?_eq_getElem hlt⟩
          obtain ⟨y, hy⟩ : ∃ y, p[i]? = some y := ⟨_, List.getElem?_eq_getElem hilt⟩
          have lx : lenQ x 3 := HL.out.2 x (List.mem_of_getElem? hx)
          have ly : lenQ y 3 := HL.out.2 y (List.mem_of_getElem? hy)
          have HX := Lib.hid hx
          have HY := Lib.hid hy
          clear hx hy
          obtain ⟨t, ht⟩ : ∃ t, t = ordq x y := ⟨_, rfl⟩
          have HT := Lib.hid ht
          obtain ⟨ux, tx, hltx, zx0, zx1, zx2, zxs, zxd⟩ := (sl0.below bb).at2 HX.out
          obtain ⟨Ax, cx, rfl, _⟩ := id zxs
          obtain ⟨Dx, ex, rfl, _⟩ := id zxd
          have zx : IsQ wr (.agg #[.bool (ngB (x).num), .slice Ax (digs 4294967296 (x).num.natAbs).length cx, .slice Dx (digs 4294967296 (x).den).length ex]) (x) := ⟨_, _, rfl, zxs, zxd⟩
          have sB := bb.size
          go_upto_region 6 with (fail)
          refine flowp 5 [Pd.eq (.int .i64 (j : Int)), Pd.eq (.pointer (some ⟨g0_, o0_ + j * 3, none⟩)), Pd.eq (.agg #[.bool (ngB (x).num), .slice Ax (digs 4294967296 (x).num.natAbs).length cx, .slice Dx (digs 4294967296 (x).den).length ex]), pn 28 #[.bool false, .slice none 0 0, .slice none 0 0] wr.heap.size, Pd.eq (.int .i64 (j : Int))] (by kernel_rfl) ?ob19 ?done19
          case ob19 =>
            refine And.intro (ob_move rfl (wt_none rfl) (ev_far rfl rfl) (fun _ _ h => h)) ?_
            refine And.intro (ob_indexAddr rfl (wt_none rfl) (ev_far rfl rfl) (ev_far rfl rfl) (fun _ _ _ hx hy => ⟨_, by rw [hx, hy]; exact index3 (k := j) Tryz.underlying22 (by kernel_rfl) hltx _, rfl⟩)) ?_
            refine And.intro (ob_load rfl (wt_none rfl) (ev_dep (j := 1) (by kernel_rfl) rfl rfl) (fun w2 hb => load3 Tryz.underlying28 rfl (by kernel_rfl) ((hb.cell (World.block_lt_of_cell? wr _ zx0)).trans zx0) ((hb.cell (World.block_lt_of_cell? wr _ zx1)).trans zx1) ((hb.cell (World.block_lt_of_cell? wr _ zx2)).trans zx2)) (fun _ _ => rfl)) ?_
            refine And.intro (ob_alloc (z := .agg #[.bool false, .slice none 0 0, .slice none 0 0]) rfl rfl (fun _ => by kernel_rfl) (fun _ _ hB h => ⟨_, rfl, hB, h⟩)) ?_
            refine And.intro (ob_assign rfl (wt_none rfl) (ev_dep (j := 0) (by kernel_rfl) rfl rfl) (fun _ _ h => h)) ?_
            trivial
          case done19 =>
            refine fun w4 hb4 v0 h0 v1 h1 v2 h2 v3 h3 d3 v4 h4 b hbf => ?_
            obtain rfl := h0; obtain rfl := h1; obtain rfl := h2; obtain rfl := h4
            obtain ⟨g19_3, rfl, hg3, B3⟩ := h3
            simp only [Act.put, List.setIfInBounds_toArray, List.set_cons_zero, List.set_cons_succ] at hbf
            subst hbf
            replace zxs := zxs.below hb4
            replace zxd := zxd.below hb4
            replace bb := bb.trans (hb4.mono bb.size)
            have hsz4 := bb.size
            have BA6 := B3
            have q2 := zxs
            have d2 := zxd
            refine ops_store (i := 5) rfl rfl rfl rfl rfl rfl (cells := [.bool (ngB (x).num), .slice Ax (digs 4294967296 (x).num.natAbs).length cx, .slice Dx (digs 4294967296 (x).den).length ex]) rfl BA6 rfl (by kernel_rfl) (one3 rfl rfl rfl) fun w5 hg5 BN5 => ?_
            replace q2 := off q2 BA6 no_ints3 hg5
            replace d2 := off d2 BA6 no_ints3 hg5
            replace bb := bb.trans ((Below.refl _ _).grown hg5 bb.size (fun g hg => by injection hg with hg; omega))
            have hsz5 := bb.size
            have Bx : Blk w5 (g19_3) _ _ := BN5
            have kxs := q2
            have kxd := d2
            have kxz : IsZ w5 (.agg #[.bool (ngB (x).num), .slice Ax (digs 4294967296 (x).num.natAbs).length cx]) ((x).num) := ⟨_, rfl, kxs⟩
            have kx : IsQ w5 (.agg #[.bool (ngB (x).num), .slice Ax (digs 4294967296 (x).num.natAbs).length cx, .slice Dx (digs 4294967296 (x).den).length ex]) (x) := ⟨_, _, rfl, kxs, kxd⟩
            refine ops_done ?_
            obtain ⟨uy, ty, hlty, zy0, zy1, zy2, zys, zyd⟩ := (sl0.below bb).at2 HY.out
            obtain ⟨Ay, cy, rfl, _⟩ := id zys
            obtain ⟨Dy, ey, rfl, _⟩ := id zyd
            have zy : IsQ w5 (.agg #[.bool (ngB (y).num), .slice Ay (digs 4294967296 (y).num.natAbs).length cy, .slice Dy (digs 4294967296 (y).den).length ey]) (y) := ⟨_, _, rfl, zys, zyd⟩
            by_cases c2 : y < x
            · have HTB : Hid (decide (0 < t) = true) := decide_eq_true (by rw [ht]; exact ordq_pos.2 c2)
              have HI2 : Hid (j = bestq p (j + 1)) := by have e := HI.out; have hy := HY.out; rw [e] at hy; show _ = _; rw [bestq_yes HX.out hy c2]
              clear c2 ht
              have sB := bb.size
              go_upto_region 7 with (fail)
              refine flow 7 [Pd.eq (.agg #[.bool (ngB (x).num), .slice Ax (digs 4294967296 (x).num.natAbs).length cx, .slice Dx (digs 4294967296 (x).den).length ex]), Pd.eq (.slice (some ⟨g0_, o0_, none⟩) p.length c0), Pd.eq (.int .i64 (i : Int)), Pd.eq (.pointer (some ⟨g0_, o0_ + i * 3, none⟩)), Pd.eq (.agg #[.bool (ngB (y).num), .slice Ay (digs 4294967296 (y).num.natAbs).length cy, .slice Dy (digs 4294967296 (y).den).length ey]), Pd.eq (.int .i64 t), Pd.eq (.bool true)] (by kernel_rfl) (by kernel_rfl) ?ob20 ?done20
              case ob20 =>
                refine And.intro (ob_load rfl (wt_none rfl) (ev_far rfl rfl) (fun w2 hb => run_loadAll Tryz.underlying28 rfl (by kernel_rfl) (Bx.drew.below hb)) (fun _ _ => rfl)) ?_
                refine And.intro (ob_move rfl (wt_none rfl) (ev_far rfl rfl) (fun _ _ h => h)) ?_
                refine And.intro (ob_move rfl (wt_none rfl) (ev_far rfl rfl) (fun _ _ h => h)) ?_
                refine And.intro (ob_indexAddr rfl (wt_none rfl) (ev_dep (j := 1) (by kernel_rfl) rfl rfl) (ev_dep (j := 2) (by kernel_rfl) rfl rfl) (fun _ _ _ hx hy => ⟨_, by rw [hx, hy]; exact index3 (k := i) Tryz.underlying22 (by kernel_rfl) hlty _, rfl⟩)) ?_
                refine And.intro (ob_load rfl (wt_none rfl) (ev_dep (j := 3) (by kernel_rfl) rfl rfl) (fun w2 hb => load3 Tryz.underlying28 rfl (by kernel_rfl) ((hb.cell (World.block_lt_of_cell? w5 _ zy0)).trans zy0) ((hb.cell (World.block_lt_of_cell? w5 _ zy1)).trans zy1) ((hb.cell (World.block_lt_of_cell? w5 _ zy2)).trans zy2)) (fun _ _ => rfl)) ?_
                refine And.intro (ob_call2 rfl Tryz.func42 (by kernel_rfl) (wt_none rfl) (ev_dep (j := 0) (by kernel_rfl) rfl rfl) (ev_dep (j := 4) (by kernel_rfl) rfl rfl) (fun w2 u0 u1 hb h0 h1 => by obtain rfl := h0; obtain rfl := h1; exact (cmp8_any _ _ x y t _ (kx.drew.below hb) (zy.drew.below hb) (lx.mono (by decide)) (ly.mono (by decide)) HT.out).mono fun e w3 h => RetV.pd h)) ?_
                refine And.intro (ob_bin rfl (wt_none rfl) (ev_dep (j := 5) (by kernel_rfl) rfl rfl) (ev_const _) (fun _ _ _ hx hy => ⟨.bool true, by rw [hx, hy, bin_gtr_int, HTB.out], rfl⟩)) ?_
                trivial
              case done20 =>
                refine fun w7 hb7 v0 h0 v1 h1 v2 h2 v3 h3 v4 h4 v5 h5 v6 h6 b hbf => ?_
                obtain rfl := h0; obtain rfl := h1; obtain rfl := h2; obtain rfl := h3; obtain rfl := h4; obtain rfl := h5; obtain rfl := h6
                simp only [Act.put, List.setIfInBounds_toArray, List.set_cons_zero, List.set_cons_succ] at hbf
                subst hbf
                replace Bx := Bx.below hb7
                replace kxs := kxs.below hb7
                replace kxd := kxd.below hb7
                replace kxz := kxz.below hb7
                replace kx := kx.below hb7
                replace bb := bb.trans (hb7.mono bb.size)
                have hsz7 := bb.size
                refine any_done (by kernel_rfl) ?_
                have hsk : p.length - (j + 1) < p.length - j := by omega
                go_wp2
                go_roundw
                case rel => exact ⟨j + 1, j, by omega, HI2, bb, rfl, by go_num⟩
                case measure => simp [intOf]; omega
            · have HTB : Hid (decide (0 < t) = false) := decide_eq_false (by rw [ht]; exact fun h => c2 (ordq_pos.1 h))
              have HI2 : Hid (i = bestq p (j + 1)) := by have e := HI.out; have hy := HY.out; rw [e] at hy; show _ = _; rw [bestq_no HX.out hy c2]; exact e
              clear c2 ht
              have sB := bb.size
              go_upto_region 7 with (fail)
              refine flow 7 [Pd.eq (.agg #[.bool (ngB (x).num), .slice Ax (digs 4294967296 (x).num.natAbs).length cx, .slice Dx (digs 4294967296 (x).den).length ex]), Pd.eq (.slice (some ⟨g0_, o0_, none⟩) p.length c0), Pd.eq (.int .i64 (i : Int)), Pd.eq (.pointer (some ⟨g0_, o0_ + i * 3, none⟩)), Pd.eq (.agg #[.bool (ngB (y).num), .slice Ay (digs 4294967296 (y).num.natAbs).length cy, .slice Dy (digs 4294967296 (y).den).length ey]), Pd.eq (.int .i64 t), Pd.eq (.bool false)] (by kernel_rfl) (by kernel_rfl) ?ob21 ?done21
              case ob21 =>
                refine And.intro (ob_load rfl (wt_none rfl) (ev_far rfl rfl) (fun w2 hb => run_loadAll Tryz.underlying28 rfl (by kernel_rfl) (Bx.drew.below hb)) (fun _ _ => rfl)) ?_
                refine And.intro (ob_move rfl (wt_none rfl) (ev_far rfl rfl) (fun _ _ h => h)) ?_
                refine And.intro (ob_move rfl (wt_none rfl) (ev_far rfl rfl) (fun _ _ h => h)) ?_
                refine And.intro (ob_indexAddr rfl (wt_none rfl) (ev_dep (j := 1) (by kernel_rfl) rfl rfl) (ev_dep (j := 2) (by kernel_rfl) rfl rfl) (fun _ _ _ hx hy => ⟨_, by rw [hx, hy]; exact index3 (k := i) Tryz.underlying22 (by kernel_rfl) hlty _, rfl⟩)) ?_
                refine And.intro (ob_load rfl (wt_none rfl) (ev_dep (j := 3) (by kernel_rfl) rfl rfl) (fun w2 hb => load3 Tryz.underlying28 rfl (by kernel_rfl) ((hb.cell (World.block_lt_of_cell? w5 _ zy0)).trans zy0) ((hb.cell (World.block_lt_of_cell? w5 _ zy1)).trans zy1) ((hb.cell (World.block_lt_of_cell? w5 _ zy2)).trans zy2)) (fun _ _ => rfl)) ?_
                refine And.intro (ob_call2 rfl Tryz.func42 (by kernel_rfl) (wt_none rfl) (ev_dep (j := 0) (by kernel_rfl) rfl rfl) (ev_dep (j := 4) (by kernel_rfl) rfl rfl) (fun w2 u0 u1 hb h0 h1 => by obtain rfl := h0; obtain rfl := h1; exact (cmp8_any _ _ x y t _ (kx.drew.below hb) (zy.drew.below hb) (lx.mono (by decide)) (ly.mono (by decide)) HT.out).mono fun e w3 h => RetV.pd h)) ?_
                refine And.intro (ob_bin rfl (wt_none rfl) (ev_dep (j := 5) (by kernel_rfl) rfl rfl) (ev_const _) (fun _ _ _ hx hy => ⟨.bool false, by rw [hx, hy, bin_gtr_int, HTB.out], rfl⟩)) ?_
                trivial
              case done21 =>
                refine fun w7 hb7 v0 h0 v1 h1 v2 h2 v3 h3 v4 h4 v5 h5 v6 h6 b hbf => ?_
                obtain rfl := h0; obtain rfl := h1; obtain rfl := h2; obtain rfl := h3; obtain rfl := h4; obtain rfl := h5; obtain rfl := h6
                simp only [Act.put, List.setIfInBounds_toArray, List.set_cons_zero, List.set_cons_succ] at hbf
                subst hbf
                replace Bx := Bx.below hb7
                replace kxs := kxs.below hb7
                replace kxd := kxd.below hb7
                replace kxz := kxz.below hb7
                replace kx := kx.below hb7
                replace bb := bb.trans (hb7.mono bb.size)
                have hsz7 := bb.size
                refine any_done (by kernel_rfl) ?_
                have hsk : p.length - (j + 1) < p.length - j := by omega
                go_wp2
                go_roundw
                case rel => exact ⟨j + 1, i, by omega, HI2, bb, rfl, by go_num⟩
                case measure => simp [intOf]; omega
        · have HW1 : Hid (n = (i : Int)) := by show _ = _; rw [HN.out, HI.out, topq, show j = p.length by omega]
          go_wp2
          go_ret2
          exact ⟨by rw [HW1.out, HW2.out]; rfl, bb⟩
end Go.Proofs.YtodpjmbclmlieaaGreat.rat
namespace Go.Proofs.YtodpjmbclmlieaaGreat.flow
open Go.RowKit Go.Proofs.YtodpjmbclmlieaaGreat.num Go.Proofs.YtodpjmbclmlieaaGreat.mem Go.Proofs.YtodpjmbclmlieaaGreat.whl Go.Proofs.YtodpjmbclmlieaaGreat.rat
set_option linter.unusedVariables false
/-- A slice of one element of three cells, as told. -/
def pone (φ : Pd) : Pd := ⟨fun w v => ∃ g x y z, v = .slice (some ⟨g, 0, none⟩) 1 1 ∧ w.cell? ((⟨g, 0, none⟩ : Addr).add 0) = some x ∧ w.cell? ((⟨g, 0, none⟩ : Addr).add 1) = some y ∧ w.cell? ((⟨g, 0, none⟩ : Addr).add 2) = some z ∧ φ.p w (.agg #[x, y, z]), fun h hb => by
  obtain ⟨g, x, y, z, h0, h1, h2, h3, h4⟩ := h
  exact ⟨g, x, y, z, h0, (hb.cell (World.block_lt_of_cell? _ _ h1)).trans h1, (hb.cell (World.block_lt_of_cell? _ _ h2)).trans h2, (hb.cell (World.block_lt_of_cell? _ _ h3)).trans h3, φ.up h4 hb⟩⟩
section
variable {P : Program} {Q : Exit → Act → World → Prop} {ops : Array Oper} {L : List Oper} {Φ : List Pd} {w0 : World} {a0 : Act} {i : Nat} {o : Oper}
theorem ob_build_q {t T : TypeId} {x : Operand} {φ : Pd} {F : World → Value → Prop} (hop : o.op = .buildSlice t 1 #[(0, x)]) (hg : o.guard = none) (hx : Ev L Φ w0 a0 o x F) (hu : P.underlying t = some (.slice T)) (hI : ∃ i, P.info? T = some i ∧ i.zero = some (.agg #[.bool false, .slice none 0 0, .slice none 0 0]) ∧ i.size = 3 ∧ i.bytes = 56)
    (hF : ∀ w v, F w v → φ.p w v ∧ ∃ a b c, v = .agg #[a, b, c] ∧ a.oneCell' = true ∧ b.oneCell' = true ∧ c.oneCell' = true) (hP : ∀ w v, (pone φ).p w v → (ph Φ i).p w v) : Ob P Q ops L Φ w0 a0 i o := by
  intro ms w hS
  rw [if_pos (wt_none (ops := ops) (L := L) (Φ := Φ) (w0 := w0) (a0 := a0) hg ms w hS)]
  obtain ⟨h1, a, b, c, hv, ka, kb, kc⟩ := hF _ _ (hx ms w hS)
  obtain ⟨inf, hi, hz, hs, hb⟩ := hI
  have hr : (execOp (putM a0 L ms).eval o).run P w = .ok (.value (.slice (some ⟨w.heap.size, 0, none⟩) 1 1)) (w.alloc (.cells #[a, b, c] T)) := by
    generalize putM a0 L ms = A at hv
    have hz0 : (zeroValue T).run P w = .ok (.agg #[.bool false, .slice none 0 0, .slice none 0 0]) w := by simp [zeroValue, go_sem, typeInfo, hi, hz]
    simp only [hop, execOp, List.map_toArray, List.map_cons, List.map_nil, hv]
    generalize A.eval = ev
    simp [go_sem, run_underlying hu, sizeOf, typeInfo, hi, newRow, hs, hz0]
  unfold Oper.wp
  rw [hr]
  obtain ⟨c0, c1, c2⟩ := new_cells w T a b c
  have hbb := below_alloc (w := w) (Nat.le_refl _) (.cells #[a, b, c] T)
  exact ⟨_, rfl, hbb, hP _ _ ⟨_, a, b, c, rfl, c0, c1, c2, φ.up (hv ▸ h1) hbb⟩, fun h => by unfold isA at h; rw [hop] at h; cases h⟩
/-- Behind the flow: an append of one element to a row of the call's own. -/
theorem any_append_q {fuel : Nat} {listed : Array Bool} {a : Act} {w : World} (s x : Operand) {t : TypeId} (hr : Region.ready .any ops listed = [i]) (ho : ops[i]? = some o) (hg : o.guard = none) (hop : o.op = .call { callee := .builtin .append, args := #[s, x], argTypes := #[t, t] })
    {base : Nat} {T : TypeId} (hT : P.underlying t = some (.slice T)) (hI : ∃ i, P.info? T = some i ∧ i.zero = some (.agg #[.bool false, .slice none 0 0, .slice none 0 0]) ∧ i.size = 3 ∧ i.bytes = 56) {v : Value} {p : Elt} {ps : List Elt} (hs : a.eval s = v) (hown : RowF T w base v ps) {ad : Addr} {c : Nat} (hx : a.eval x = .slice (some ad) 1 c)
    (h0 : w.cell? (ad.add 0) = some (.bool (ngB p.1.num))) (h1 : w.cell? (ad.add 1) = some p.2.1) (h2 : w.cell? (ad.add 2) = some p.2.2) (k1 : p.2.1.oneCell' = true) (k2 : p.2.2.oneCell' = true) (hlen : ps.length ≤ 1000000000) (hbase : base ≤ w.heap.size)
    (h : ∀ v' w' b, RowF T w' base v' (ps ++ [p]) → Below base w w' → Hid (Grew w w' v v') → a.put o.dst v' = b → wpAny P .any ops Q fuel (listed.setIfInBounds i true) b w') : wpAny P .any ops Q (fuel + 1) listed a w :=
  any_one hr ho hg (wp_append_q s x hop hT hI hs hown hx h0 h1 h2 k1 k2 hlen hbase fun v' w' r b k => h v' w' _ r b k rfl)
end
end Go.Proofs.YtodpjmbclmlieaaGreat.flow
namespace Go.Proofs.YtodpjmbclmlieaaGreat.rat
open Go.RowKit Go.Proofs.YtodpjmbclmlieaaGreat.num Go.Proofs.YtodpjmbclmlieaaGreat.mem Go.Proofs.YtodpjmbclmlieaaGreat.nat Go.Proofs.YtodpjmbclmlieaaGreat.txt Go.Proofs.YtodpjmbclmlieaaGreat.str Go.Proofs.YtodpjmbclmlieaaGreat.flow Go.Proofs.YtodpjmbclmlieaaGreat.whl
/-- A slice of these fractions. -/
def RetSlV (k : IntKind) (B : Nat) (L : List Rat) (w : World) (e : Ending) (w' : World) : Prop := ∃ V, e = .returned V ∧ SlF k B w' V L ∧ Below w.heap.size w w'
set_option linter.unusedVariables false
section
variable {P : Program}
theorem bin_add_nat {t : TypeId} (x y : Operand) (a b : Nat) (h : a + b ≤ 9223372036854775807) (w : World) : (do eqGuard .add t x y (.int .i64 (a : Int)) (.int .i64 (b : Int)); binOp .add t (.int .i64 (a : Int)) (.int .i64 (b : Int))).run P w = .ok (.int .i64 ((a + b : Nat) : Int)) w := by
  have h0 : (eqGuard .add t x y (.int .i64 (a : Int)) (.int .i64 (b : Int))).run P w = .ok () w := by simp [eqGuard]
  have e : IntKind.i64.wrap ((a : Int) + (b : Int)) = ((a + b : Nat) : Int) := by rw [IntKind.wrap_i64]; omega
  rw [Sem.run_bind, h0, Result.andThen_ok]
  simp [binOp, Op.intArith, go_sem, e]
end
/-- A slice of these. -/
def psq (qs : List Rat) : Pd := ⟨fun w v => SlF .u64 4294967296 w v qs, fun h hb => h.below hb⟩
/-- A row of two rows. -/
def Two (w : World) (v : Value) (p q : List Rat) : Prop := ∃ u0 u1, IsV w v [u0, u1] ∧ SlF .u64 4294967296 w u0 p ∧ SlF .u64 4294967296 w u1 q
theorem Two.below {w w' : World} {v : Value} {p q : List Rat} (h : Two w v p q) (hb : Below w.heap.size w w') : Two w' v p q := by
  obtain ⟨u0, u1, h1, h2, h3⟩ := h
  exact ⟨u0, u1, h1.below hb, h2.below hb, h3.below hb⟩
def pvv (p q : List Rat) : Pd := ⟨fun w v => Two w v p q, fun h hb => h.below hb⟩
theorem slF_lit2 (w : World) (T : TypeId) {q r : Rat} {u t u' t' : Value} (h1 : IsS w .u64 u (digs 4294967296 q.num.natAbs)) (h2 : IsS w .u64 t (digs 4294967296 q.den)) (h3 : IsS w .u64 u' (digs 4294967296 r.num.natAbs)) (h4 : IsS w .u64 t' (digs 4294967296 r.den)) :
    SlF .u64 4294967296 (w.alloc (.cells #[.bool (ngB q.num), u, t, .bool (ngB r.num), u', t'] T)) (.slice (some ⟨w.heap.size, 0, none⟩) 2 2) [q, r] := by
  have hbb := below_alloc (w := w) (Nat.le_refl _) (.cells #[.bool (ngB q.num), u, t, .bool (ngB r.num), u', t'] T)
  have hB := Blk.new w T #[.bool (ngB q.num), u, t, .bool (ngB r.num), u', t']
  refine ⟨[(q, u, t), (r, u', t')], rfl, ⟨some ⟨w.heap.size, 0, none⟩, 2, rfl, Nat.le_refl _, by unfold maxLen; omega, fun i p hp => ?_⟩, fun p hp => ?_⟩
  · rcases i with _ | _ | i
    · obtain rfl : ((q, u, t) : Elt) = p := by simpa using hp
      exact ⟨_, _, rfl, hB.cell 0, hB.cell 1, hB.cell 2⟩
    · obtain rfl : ((r, u', t') : Elt) = p := by simpa using hp
      exact ⟨_, _, rfl, hB.cell 3, hB.cell 4, hB.cell 5⟩
    · simp at hp
  · rcases List.mem_cons.1 hp with rfl | hp
    · exact ⟨h1.below hbb, h2.below hbb⟩
    · obtain rfl := List.mem_singleton.1 hp
      exact ⟨h3.below hbb, h4.below hbb⟩
section
variable {P : Program} {Q : Exit → Act → World → Prop} {ops : Array Oper} {L : List Oper} {Φ : List Pd} {w0 : World} {a0 : Act} {i : Nat} {o : Oper}
theorem ob_lit2 {t T : TypeId} {x y : Operand} {q r : Rat} {F G : World → Value → Prop} (hop : o.op = .buildSlice t 2 #[(0, x), (1, y)]) (hw : Wt ops L Φ w0 a0 o true) (hx : Ev L Φ w0 a0 o x F) (hy : Ev L Φ w0 a0 o y G) (hu : P.underlying t = some (.slice T)) (hI : ∃ i, P.info? T = some i ∧ i.zero = some (.agg #[.bool false, .slice none 0 0, .slice none 0 0]) ∧ i.size = 3 ∧ i.bytes = 56)
    (hF : ∀ w v, F w v → IsQ w v q) (hG : ∀ w v, G w v → IsQ w v r) (hP : ∀ w v, SlF .u64 4294967296 w v [q, r] → (ph Φ i).p w v) : Ob P Q ops L Φ w0 a0 i o := by
  intro ms w hS
  rw [if_pos (hw ms w hS)]
  obtain ⟨u, t1, hv, h1, h2⟩ := hF _ _ (hx ms w hS)
  obtain ⟨u', t', hv', h3, h4⟩ := hG _ _ (hy ms w hS)
  have sl := slF_lit2 w T h1 h2 h3 h4
  have hbb := below_alloc (w := w) (Nat.le_refl _) (.cells #[.bool (ngB q.num), u, t1, .bool (ngB r.num), u', t'] T)
  obtain ⟨A1, c1, rfl, _⟩ := id h1
  obtain ⟨A2, c2, rfl, _⟩ := id h2
  obtain ⟨A3, c3, rfl, _⟩ := id h3
  obtain ⟨A4, c4, rfl, _⟩ := id h4
  obtain ⟨inf, hi, hz, hs, hb⟩ := hI
  have hr : (execOp (putM a0 L ms).eval o).run P w = .ok (.value (.slice (some ⟨w.heap.size, 0, none⟩) 2 2)) (w.alloc (.cells #[.bool (ngB q.num), .slice A1 (digs 4294967296 q.num.natAbs).length c1, .slice A2 (digs 4294967296 q.den).length c2, .bool (ngB r.num), .slice A3 (digs 4294967296 r.num.natAbs).length c3, .slice A4 (digs 4294967296 r.den).length c4] T)) := by
    generalize putM a0 L ms = A at hv hv'
    have hz0 : (zeroValue T).run P w = .ok (.agg #[.bool false, .slice none 0 0, .slice none 0 0]) w := by simp [zeroValue, go_sem, typeInfo, hi, hz]
    simp only [hop, execOp, List.map_toArray, List.map_cons, List.map_nil, hv, hv']
    generalize A.eval = ev
    simp [go_sem, run_underlying hu, sizeOf, typeInfo, hi, newRow, hs, hz0]
  unfold Oper.wp
  rw [hr]
  exact ⟨_, rfl, hbb, hP _ _ sl, fun h => by unfold isA at h; rw [hop] at h; cases h⟩
theorem ob_lit2v {t T : TypeId} {x y : Operand} {p q : List Rat} {F G : World → Value → Prop} (hop : o.op = .buildSlice t 2 #[(0, x), (1, y)]) (hw : Wt ops L Φ w0 a0 o true) (hx : Ev L Φ w0 a0 o x F) (hy : Ev L Φ w0 a0 o y G) (hu : P.underlying t = some (.slice T)) (hI : ∃ i, P.info? T = some i ∧ i.zero = some (.slice none 0 0) ∧ i.size = 1)
    (hF : ∀ w v, Below w0.heap.size w0 w → F w v → SlF .u64 4294967296 w v p) (hG : ∀ w v, Below w0.heap.size w0 w → G w v → SlF .u64 4294967296 w v q) (hP : ∀ w v, Two w v p q → (ph Φ i).p w v) : Ob P Q ops L Φ w0 a0 i o := by
  intro ms w hS
  rw [if_pos (hw ms w hS)]
  have h1 := hF _ _ hS.below (hx ms w hS)
  have h2 := hG _ _ hS.below (hy ms w hS)
  obtain ⟨A1, c1, hv, _, _⟩ := h1.shape
  obtain ⟨A2, c2, hv', _, _⟩ := h2.shape
  rw [hv] at h1
  rw [hv'] at h2
  obtain ⟨inf, hi, hz, hs⟩ := hI
  have hbb := below_alloc (w := w) (Nat.le_refl _) (.cells #[.slice A1 p.length c1, .slice A2 q.length c2] T)
  have hr : (execOp (putM a0 L ms).eval o).run P w = .ok (.value (.slice (some ⟨w.heap.size, 0, none⟩) 2 2)) (w.alloc (.cells #[.slice A1 p.length c1, .slice A2 q.length c2] T)) := by
    generalize putM a0 L ms = A at hv hv'
    have hz0 : (zeroValue T).run P w = .ok (.slice none 0 0) w := by simp [zeroValue, go_sem, typeInfo, hi, hz]
    simp only [hop, execOp, List.map_toArray, List.map_cons, List.map_nil, hv, hv']
    generalize A.eval = ev
    simp [go_sem, run_underlying hu, sizeOf, typeInfo, hi, newRow, hs, hz0]
  unfold Oper.wp
  rw [hr]
  exact ⟨_, rfl, hbb, hP _ _ ⟨_, _, isV_lit w T [.slice A1 p.length c1, .slice A2 q.length c2], h1.below hbb, h2.below hbb⟩, fun h => by unfold isA at h; rw [hop] at h; cases h⟩
end
theorem info_slq : ∃ i, Tryz.prog.info? 22 = some i ∧ i.zero = some (.slice none 0 0) ∧ i.size = 1 := by
  obtain ⟨i, h1, h2, h3, _⟩ := info_parts (P := Tryz.prog) (e := 22) (z := .slice none 0 0) (size := 1) (bytes := 24) (by kernel_rfl)
  exact ⟨i, h1, h2, h3⟩
set_option linter.unusedSimpArgs false
theorem addq_zeros (p : List Rat) : addq (zerosq p.length) p = p := by
  refine List.ext_getElem? fun i => ?_
  unfold addq
  rw [List.getElem?_zipWith]
  rcases hp : p[i]? with _ | x
  · cases (zerosq p.length)[i]? <;> rfl
  · rw [zerosq_at (List.getElem?_eq_some_iff.1 hp).1]
    show some (0 + x) = some x
    rw [Rat.zero_add]
/-- What the row holds after m of the two rows were added. -/
def accq (p q : List Rat) : Nat → List Rat
  | 0 => zerosq p.length
  | 1 => p
  | _ => addq p q
theorem accq_len {p q : List Rat} (m : Nat) (h : m < 2 ∨ p.length = q.length) : (accq p q m).length = p.length := by
  match m, h with
  | 0, _ => exact zerosq_len _
  | 1, _ => rfl
  | m + 2, h => exact addq_len (by omega)
theorem accq_step {p q r : List Rat} {m : Nat} (hm : m < 2) (hr : r = if m = 0 then p else q) : addq (accq p q m) r = accq p q (m + 1) := by
  rcases (by omega : m = 0 ∨ m = 1) with rfl | rfl
  · have e : r = p := hr
    rw [e]; exact addq_zeros p
  · have e : r = q := hr
    rw [e]; rfl
set_option maxHeartbeats 1600000 in
set_option maxRecDepth 100000 in
theorem fvadd_none (w : World) :
    Calls Tryz.prog 7 #[.slice none 0 0] w (RetQLE [] 0 w) := by
  go_enter Tryz.func7, Tryz.ntmps7
  go_wp2
  go_ret2
  exact ⟨_, rfl, slF_nil _ _ _, Below.refl _ _⟩
set_option maxHeartbeats 6400000 in
set_option maxRecDepth 100000 in
theorem fvadd_both (a0 : Value) (p q : List Rat) (w : World) (h0 : Two w a0 p q) (hl : p.length ≤ 8 ∧ (∀ x ∈ p, lenQ x 1) ∧ ∀ x ∈ q, lenQ x 1) :
    Calls Tryz.prog 7 #[a0] w (fun e w' => (p.length = q.length ∧ RetQLE (addq p q) 0 w e w') ∨ (p.length ≠ q.length ∧ RetNN 8 w e w')) := by
  have bb : Below w.heap.size w w := Below.refl _ _
  obtain ⟨u0, u1, hV, hp, hq⟩ := h0
  obtain ⟨AV, cV, rfl, hcV, hcells⟩ := hV
  obtain ⟨ad, rfl, ec0⟩ := hcells 0 u0 rfl
  obtain ⟨ad', e_, ec1⟩ := hcells 1 u1 rfl
  obtain rfl : ad = ad' := Option.some.inj e_
  clear e_ hcells
  obtain ⟨Ap, cp, rfl, _, _⟩ := hp.shape
  obtain ⟨Aq, cq, rfl, _, _⟩ := hq.shape
  have sl0 := hp
  have sl1 := hq
  have HLE := Lib.hid hl
  have hl8 : p.length ≤ 8 := hl.1
  have HZL : Hid ((zerosq p.length).length = p.length) := zerosq_len p.length
  clear hl hp hq
  go_enter Tryz.func7, Tryz.ntmps7
  go_upto_region 1 with (fail)
  have hsz0 := bb.size
  have sB := bb.size
  refine flowp 3 [Pd.eq (.slice (some ad) 2 cV), Pd.eq (.int .i64 ((2 : Nat) : Int)), Pd.eq (.bool (((2 : Nat) : Int) == 0))] (by kernel_rfl) ?ob1 ?done1
  case ob1 =>
    refine And.intro (ob_move rfl (wt_none rfl) (ev_far rfl rfl) (fun _ _ h => h)) ?_
    refine And.intro (ob_len rfl (wt_none rfl) (ev_dep (j := 0) (by kernel_rfl) rfl rfl) (fun _ _ hx => ⟨_, by rw [hx]; exact len_slice Tryz.underlying68 _ _ _ _, rfl⟩)) ?_
    refine And.intro (ob_bin rfl (wt_none rfl) (ev_dep (j := 1) (by kernel_rfl) rfl rfl) (ev_const _) (fun _ _ _ hx hy => ⟨.bool (((2 : Nat) : Int) == 0), by rw [hx, hy]; exact bin_eql_int _ _ _ _ _, rfl⟩)) ?_
    trivial
  case done1 =>
    refine fun w1 hb1 v0 h0 v1 h1 v2 h2 b hbf => ?_
    obtain rfl := h0; obtain rfl := h1; obtain rfl := h2
    simp only [Act.put, List.setIfInBounds_toArray, List.set_cons_zero, List.set_cons_succ] at hbf
    subst hbf
    replace bb := bb.trans (hb1.mono bb.size)
    have hsz1 := bb.size
    refine ops_done ?_
    go_wp2
    go_loopw [16] (fun v16 wr => ∃ m : Nat, m ≤ 2 ∧ (m < 2 ∨ p.length = q.length) ∧ Below w.heap.size w wr ∧ v16 = .int .i64 (m : Int)) (fun v16 _ => 2 - (intOf v16).toNat)
    case atStart => exact ⟨0, by omega, by omega, bb, rfl⟩
    case round =>
      obtain ⟨m, hm, hm2, hbw, rfl⟩ := hrel
      clear bb
      have bb := hbw
      clear hbw
      have hszr := bb.size
      by_cases hm3 : m < 2
      · obtain ⟨r, hr⟩ : ∃ r, r = if m = 0 then p else q := ⟨_, rfl⟩
        have HR := Lib.hid hr
        obtain ⟨Ar, cr, ecr, sr⟩ : ∃ Ar cr, w.cell? (ad.add m) = some (.slice Ar r.length cr) ∧ SlF .u64 4294967296 w (.slice Ar r.length cr) r := by
          rcases (by omega : m = 0 ∨ m = 1) with rfl | rfl
          · obtain rfl : r = p := hr
            exact ⟨_, _, ec0, sl0⟩
          · obtain rfl : r = q := hr
            exact ⟨_, _, ec1, sl1⟩
        have ecw := (bb.cell (World.block_lt_of_cell? w _ ecr)).trans ecr
        have heq : r.length = p.length ∨ (r.length ≠ p.length ∧ p.length ≠ q.length) := by
          rw [hr]
          split
          · exact .inl rfl
          · omega
        have hmr : r.length = p.length → (m + 1 < 2 ∨ p.length = q.length) := by
          rw [hr]
          split
          · omega
          · omega
        clear hr
        have sB := bb.size
        go_upto_region 5 with (fail)
        refine flowp 3 [Pd.eq (.pointer (some (ad.add m))), Pd.eq (.slice Ar r.length cr), Pd.eq (.slice Ar r.length cr)] (by kernel_rfl) ?ob2 ?done2
        case ob2 =>
          refine And.intro (ob_indexAddr rfl (wt_none rfl) (ev_far rfl rfl) (ev_far rfl rfl) (fun _ _ _ hx hy => ⟨_, by rw [hx, hy]; exact index1_any (k := m) Tryz.underlying68 (by kernel_rfl) ad (by omega) _, rfl⟩)) ?_
          refine And.intro (ob_load rfl (wt_none rfl) (ev_dep (j := 0) (by kernel_rfl) rfl rfl) (fun w2 hb => run_load1 Tryz.underlying22 rfl ((hb.cell (World.block_lt_of_cell? wr _ ecw)).trans ecw)) (fun _ _ => rfl)) ?_
          refine And.intro (ob_assign rfl (wt_none rfl) (ev_dep (j := 1) (by kernel_rfl) rfl rfl) (fun _ _ h => h)) ?_
          trivial
        case done2 =>
          refine fun w3 hb3 v0 h0 v1 h1 v2 h2 b hbf => ?_
          obtain rfl := h0; obtain rfl := h1; obtain rfl := h2
          simp only [Act.put, List.setIfInBounds_toArray, List.set_cons_zero, List.set_cons_succ] at hbf
          subst hbf
          replace bb := bb.trans (hb3.mono bb.size)
          have hsz3 := bb.size
          refine ops_done ?_
          clear ecw
          have ecw0 := (bb.cell (World.block_lt_of_cell? w _ ec0)).trans ec0
          by_cases hrl : r.length = p.length
          · have HNE : Hid ((((r.length : Nat) : Int) != ((p.length : Nat) : Int)) = false) := by show _ = _; rw [bne_eq_false_iff_eq]; omega
            have HM2 := Lib.hid (hmr hrl)
            clear heq hmr hrl
            have sB := bb.size
            go_upto_region 6 with (fail)
            refine flowp 7 [Pd.eq (.slice Ar r.length cr), Pd.eq (.int .i64 ((r.length : Nat) : Int)), Pd.eq (.slice (some ad) 2 cV), Pd.eq (.pointer (some (ad.add 0))), Pd.eq (.slice Ap p.length cp), Pd.eq (.int .i64 ((p.length : Nat) : Int)), Pd.eq (.bool false)] (by kernel_rfl) ?ob4 ?done4
            case ob4 =>
              refine And.intro (ob_move rfl (wt_none rfl) (ev_far rfl rfl) (fun _ _ h => h)) ?_
              refine And.intro (ob_len rfl (wt_none rfl) (ev_dep (j := 0) (by kernel_rfl) rfl rfl) (fun _ _ hx => ⟨_, by rw [hx]; exact len_slice Tryz.underlying22 _ _ _ _, rfl⟩)) ?_
              refine And.intro (ob_move rfl (wt_none rfl) (ev_far rfl rfl) (fun _ _ h => h)) ?_
              refine And.intro (ob_indexAddr rfl (wt_none rfl) (ev_dep (j := 2) (by kernel_rfl) rfl rfl) (ev_const _) (fun _ _ _ hx hy => ⟨_, by rw [hx, hy]; exact index1_any (k := 0) Tryz.underlying68 (by kernel_rfl) ad (by omega) _, rfl⟩)) ?_
              refine And.intro (ob_load rfl (wt_none rfl) (ev_dep (j := 3) (by kernel_rfl) rfl rfl) (fun w2 hb => run_load1 Tryz.underlying22 rfl ((hb.cell (World.block_lt_of_cell? w3 _ ecw0)).trans ecw0)) (fun _ _ => rfl)) ?_
              refine And.intro (ob_len rfl (wt_none rfl) (ev_dep (j := 4) (by kernel_rfl) rfl rfl) (fun _ _ hx => ⟨_, by rw [hx]; exact len_slice Tryz.underlying22 _ _ _ _, rfl⟩)) ?_
              refine And.intro (ob_bin rfl (wt_none rfl) (ev_dep (j := 1) (by kernel_rfl) rfl rfl) (ev_dep (j := 5) (by kernel_rfl) rfl rfl) (fun _ _ _ hx hy => ⟨.bool false, by rw [hx, hy, bin_neq_int, HNE.out], rfl⟩)) ?_
              trivial
            case done4 =>
              refine fun w5 hb5 v0 h0 v1 h1 v2 h2 v3 h3 v4 h4 v5 h5 v6 h6 b hbf => ?_
              obtain rfl := h0; obtain rfl := h1; obtain rfl := h2; obtain rfl := h3; obtain rfl := h4; obtain rfl := h5; obtain rfl := h6
              simp only [Act.put, List.setIfInBounds_toArray, List.set_cons_zero, List.set_cons_succ] at hbf
              subst hbf
              replace bb := bb.trans (hb5.mono bb.size)
              have hsz5 := bb.size
              refine ops_done ?_
              have hm2' := HM2.out
              go_wp2
              go_roundw
              case rel => exact ⟨m + 1, by omega, hm2', bb, by go_num⟩
              case measure => simp [intOf]; omega
          · have HNE : Hid ((((r.length : Nat) : Int) != ((p.length : Nat) : Int)) = true) := by show _ = _; rw [bne_iff_ne]; omega
            have hno : p.length ≠ q.length := by omega
            have sB := bb.size
            go_upto_region 6 with (fail)
            refine flowp 7 [Pd.eq (.slice Ar r.length cr), Pd.eq (.int .i64 ((r.length : Nat) : Int)), Pd.eq (.slice (some ad) 2 cV), Pd.eq (.pointer (some (ad.add 0))), Pd.eq (.slice Ap p.length cp), Pd.eq (.int .i64 ((p.length : Nat) : Int)), Pd.eq (.bool true)] (by kernel_rfl) ?ob3 ?done3
            case ob3 =>
              refine And.intro (ob_move rfl (wt_none rfl) (ev_far rfl rfl) (fun _ _ h => h)) ?_
              refine And.intro (ob_len rfl (wt_none rfl) (ev_dep (j := 0) (by kernel_rfl) rfl rfl) (fun _ _ hx => ⟨_, by rw [hx]; exact len_slice Tryz.underlying22 _ _ _ _, rfl⟩)) ?_
              refine And.intro (ob_move rfl (wt_none rfl) (ev_far rfl rfl) (fun _ _ h => h)) ?_
              refine And.intro (ob_indexAddr rfl (wt_none rfl) (ev_dep (j := 2) (by kernel_rfl) rfl rfl) (ev_const _) (fun _ _ _ hx hy => ⟨_, by rw [hx, hy]; exact index1_any (k := 0) Tryz.underlying68 (by kernel_rfl) ad (by omega) _, rfl⟩)) ?_
              refine And.intro (ob_load rfl (wt_none rfl) (ev_dep (j := 3) (by kernel_rfl) rfl rfl) (fun w2 hb => run_load1 Tryz.underlying22 rfl ((hb.cell (World.block_lt_of_cell? w3 _ ecw0)).trans ecw0)) (fun _ _ => rfl)) ?_
              refine And.intro (ob_len rfl (wt_none rfl) (ev_dep (j := 4) (by kernel_rfl) rfl rfl) (fun _ _ hx => ⟨_, by rw [hx]; exact len_slice Tryz.underlying22 _ _ _ _, rfl⟩)) ?_
              refine And.intro (ob_bin rfl (wt_none rfl) (ev_dep (j := 1) (by kernel_rfl) rfl rfl) (ev_dep (j := 5) (by kernel_rfl) rfl rfl) (fun _ _ _ hx hy => ⟨.bool true, by rw [hx, hy, bin_neq_int, HNE.out], rfl⟩)) ?_
              trivial
            case done3 =>
              refine fun w5 hb5 v0 h0 v1 h1 v2 h2 v3 h3 v4 h4 v5 h5 v6 h6 b hbf => ?_
              obtain rfl := h0; obtain rfl := h1; obtain rfl := h2; obtain rfl := h3; obtain rfl := h4; obtain rfl := h5; obtain rfl := h6
              simp only [Act.put, List.setIfInBounds_toArray, List.set_cons_zero, List.set_cons_succ] at hbf
              subst hbf
              replace bb := bb.trans (hb5.mono bb.size)
              have hsz5 := bb.size
              refine ops_done ?_
              go_wp2
              go_ret2
              exact .inr ⟨hno, rfl, bb⟩
      · obtain rfl : m = 2 := by omega
        have he : p.length = q.length := by omega
        have HE := Lib.hid he
        clear hm hm2 hm3 he
        have ecw := (bb.cell (World.block_lt_of_cell? w _ ec0)).trans ec0
        have hw1 := bb.size
        have sB := bb.size
        go_upto_region 9 with (fail)
        refine flowp 6 [Pd.eq (.slice (some ad) 2 cV), Pd.eq (.pointer (some (ad.add 0))), Pd.eq (.slice Ap p.length cp), Pd.eq (.int .i64 ((p.length : Nat) : Int)), pro p.length (zerosq p.length) wr.heap.size, pro p.length (zerosq p.length) wr.heap.size] (by kernel_rfl) ?ob5 ?done5
        case ob5 =>
          refine And.intro (ob_move rfl (wt_none rfl) (ev_far rfl rfl) (fun _ _ h => h)) ?_
          refine And.intro (ob_indexAddr rfl (wt_none rfl) (ev_dep (j := 0) (by kernel_rfl) rfl rfl) (ev_const _) (fun _ _ _ hx hy => ⟨_, by rw [hx, hy]; exact index1_any (k := 0) Tryz.underlying68 (by kernel_rfl) ad (by omega) _, rfl⟩)) ?_
          refine And.intro (ob_load rfl (wt_none rfl) (ev_dep (j := 1) (by kernel_rfl) rfl rfl) (fun w2 hb => run_load1 Tryz.underlying22 rfl ((hb.cell (World.block_lt_of_cell? wr _ ecw)).trans ecw)) (fun _ _ => rfl)) ?_
          refine And.intro (ob_len rfl (wt_none rfl) (ev_dep (j := 2) (by kernel_rfl) rfl rfl) (fun _ _ hx => ⟨_, by rw [hx]; exact len_slice Tryz.underlying22 _ _ _ _, rfl⟩)) ?_
          refine And.intro (ob_call1 rfl Tryz.func30 (by kernel_rfl) (wt_none rfl) (ev_dep (j := 3) (by kernel_rfl) rfl rfl) (fun w2 u0 hb h0 => by obtain rfl := h0; exact (noughts_any _ (p.length) _ rfl (by omega)).mono fun e w3 h => RetRo.pd h HZL.out hb.size)) ?_
          refine And.intro (ob_assign rfl (wt_none rfl) (ev_dep (j := 4) (by kernel_rfl) rfl rfl) (fun _ _ h => h)) ?_
          trivial
        case done5 =>
          refine fun w3 hb3 v0 h0 v1 h1 v2 h2 v3 h3 v4 h4 v5 h5 b hbf => ?_
          obtain rfl := h0; obtain rfl := h1; obtain rfl := h2; obtain rfl := h3
          obtain ⟨g, rfl, RN, hg⟩ := h4
          obtain ⟨g, rfl, RN, hg⟩ := h5
          simp only [Act.put, List.setIfInBounds_toArray, List.set_cons_zero, List.set_cons_succ] at hbf
          subst hbf
          replace bb := bb.trans (hb3.mono bb.size)
          have hsz3 := bb.size
          refine ops_done ?_
          clear ecw
          have hgw : w.heap.size ≤ g := by omega
          have RN0 : RowN w3 g p.length (accq p q 0) := RN
          clear RN
          go_wp2
          go_loopw [35] (fun v35 wr => ∃ m : Nat, m ≤ 2 ∧ RowN wr g p.length (accq p q m) ∧ Below w.heap.size w wr ∧ v35 = .int .i64 (m : Int)) (fun v35 _ => 2 - (intOf v35).toNat)
          case atStart => exact ⟨0, by omega, RN0, bb, rfl⟩
          case round =>
            obtain ⟨m, hm, hR, hbw, rfl⟩ := hrel
            clear RN0 bb hszr
            have RN := hR
            have bb := hbw
            clear hR hbw
            have hszr := bb.size
            have hgl := RN.lt
            by_cases hm3 : m < 2
            · obtain ⟨r, hr⟩ : ∃ r, r = if m = 0 then p else q := ⟨_, rfl⟩
              have HR := Lib.hid hr
              obtain ⟨Ar, cr, ecr, sr⟩ : ∃ Ar cr, w.cell? (ad.add m) = some (.slice Ar r.length cr) ∧ SlF .u64 4294967296 w (.slice Ar r.length cr) r := by
                rcases (by omega : m = 0 ∨ m = 1) with rfl | rfl
                · obtain rfl : r = p := hr
                  exact ⟨_, _, ec0, sl0⟩
                · obtain rfl : r = q := hr
                  exact ⟨_, _, ec1, sl1⟩
              have ecw := (bb.cell (World.block_lt_of_cell? w _ ecr)).trans ecr
              have lr : ∀ x ∈ r, lenQ x 1 := by
                rw [hr]
                split
                · exact HLE.out.2.1
                · exact HLE.out.2.2
              have la : ∀ x ∈ accq p q m, lenQ x 1 := by
                rcases (by omega : m = 0 ∨ m = 1) with rfl | rfl
                · exact fun x hx => lenQ_01 (.inl (zerosq_mem hx))
                · exact HLE.out.2.1
              have HAL : Hid ((accq p q m).length = p.length) := accq_len m (.inr HE.out)
              have HAS : Hid (addq (accq p q m) r = accq p q (m + 1)) := accq_step hm3 hr
              have HRL : Hid (r.length = p.length) := by
                show _ = _
                rw [hr]
                split
                · rfl
                · exact HE.out.symm
              clear hr
              have sB := bb.size
              go_upto_region 12 with (fail)
              refine flowp 3 [Pd.eq (.pointer (some (ad.add m))), Pd.eq (.slice Ar r.length cr), Pd.eq (.slice Ar r.length cr)] (by kernel_rfl) ?ob6 ?done6
              case ob6 =>
                refine And.intro (ob_indexAddr rfl (wt_none rfl) (ev_far rfl rfl) (ev_far rfl rfl) (fun _ _ _ hx hy => ⟨_, by rw [hx, hy]; exact index1_any (k := m) Tryz.underlying68 (by kernel_rfl) ad (by omega) _, rfl⟩)) ?_
                refine And.intro (ob_load rfl (wt_none rfl) (ev_dep (j := 0) (by kernel_rfl) rfl rfl) (fun w2 hb => run_load1 Tryz.underlying22 rfl ((hb.cell (World.block_lt_of_cell? wr _ ecw)).trans ecw)) (fun _ _ => rfl)) ?_
                refine And.intro (ob_assign rfl (wt_none rfl) (ev_dep (j := 1) (by kernel_rfl) rfl rfl) (fun _ _ h => h)) ?_
                trivial
              case done6 =>
                refine fun w5 hb5 v0 h0 v1 h1 v2 h2 b hbf => ?_
                obtain rfl := h0; obtain rfl := h1; obtain rfl := h2
                simp only [Act.put, List.setIfInBounds_toArray, List.set_cons_zero, List.set_cons_succ] at hbf
                subst hbf
                replace RN := RN.below hb5
                replace bb := bb.trans (hb5.mono bb.size)
                have hsz5 := bb.size
                refine ops_done ?_
                clear ecw
                have RN1 : RowN w5 g p.length ((addq (accq p q m) r).take 0 ++ (accq p q m).drop 0) := by rw [List.take_zero, List.drop_zero, List.nil_append]; exact RN
                clear RN
                have HAR : Hid ((addq (accq p q m) r).length = (accq p q m).length) := addq_len (by rw [HAL.out, HRL.out])
                go_wp2
                go_loopw [41] (fun v41 wr => ∃ k : Nat, k ≤ r.length ∧ RowN wr g p.length ((addq (accq p q m) r).take k ++ (accq p q m).drop k) ∧ Below w.heap.size w wr ∧ v41 = .int .i64 (k : Int)) (fun v41 _ => r.length - (intOf v41).toNat)
                case atStart => exact ⟨0, by omega, RN1, bb, rfl⟩
                case round =>
                  obtain ⟨k, hk, hR, hbw, rfl⟩ := hrel
                  clear RN1 bb hszr hgl
                  have RN := hR
                  have bb := hbw
                  clear hR hbw
                  have hszr := bb.size
                  have hgl := RN.lt
                  by_cases hlt2 : k < r.length
                  · have hlp : k < p.length := by have := HRL.out; omega
                    obtain ⟨x, hx⟩ : ∃ x, r[k]? = some x := ⟨_, List.getElem?_eq_getElem hlt2⟩
                    obtain ⟨s, hs⟩ : ∃ s, (accq p q m)[k]? = some s := ⟨_, List.getElem?_eq_getElem (by rw [HAL.out]; exact hlp)⟩
                    have lx : lenQ x 1 := lr x (List.mem_of_getElem? hx)
                    have ls : lenQ s 1 := la s (List.mem_of_getElem? hs)
                    have HX := Lib.hid hx
                    have HAT : Hid (((addq (accq p q m) r).take k ++ (accq p q m).drop k)[k]? = some s) := front_at hs HAR.out
                    have HSK : Hid ((addq (accq p q m) r)[k]? = some (s + x)) := zip_at hs hx
                    have HFS : Hid (((addq (accq p q m) r).take k ++ (accq p q m).drop k).set k (s + x) = (addq (accq p q m) r).take (k + 1) ++ (accq p q m).drop (k + 1)) := front_set HSK.out HAR.out
                    have HFL : Hid (k < ((addq (accq p q m) r).take k ++ (accq p q m).drop k).length) := by show _ < _; rw [front_len _ _ _ HAR.out, HAL.out]; exact hlp
                    have hne : r ≠ [] := List.length_pos_iff.1 (by omega)
                    obtain ⟨g1_, o1_, cp1_, hA1_, _, _, _⟩ := sr.place hne
                    injection hA1_ with e1_ _ e3_
                    subst e1_
                    subst e3_
                    clear hx hs
                    obtain ⟨ux, tx, hltx, zx0, zx1, zx2, zxs, zxd⟩ := (sr.below bb).at2 HX.out
                    obtain ⟨Ax, cx, rfl, _⟩ := id zxs
                    obtain ⟨Dx, ex, rfl, _⟩ := id zxd
                    have zx : IsQ wr (.agg #[.bool (ngB (x).num), .slice Ax (digs 4294967296 (x).num.natAbs).length cx, .slice Dx (digs 4294967296 (x).den).length ex]) (x) := ⟨_, _, rfl, zxs, zxd⟩
                    have sB := bb.size
                    go_upto_region 15 with (fail)
                    refine flowp 5 [Pd.eq (.int .i64 (k : Int)), Pd.eq (.pointer (some ⟨g1_, o1_ + k * 3, none⟩)), Pd.eq (.agg #[.bool (ngB (x).num), .slice Ax (digs 4294967296 (x).num.natAbs).length cx, .slice Dx (digs 4294967296 (x).den).length ex]), pn 28 #[.bool false, .slice none 0 0, .slice none 0 0] wr.heap.size, Pd.eq (.int .i64 (k : Int))] (by kernel_rfl) ?ob7 ?done7
                    case ob7 =>
                      refine And.intro (ob_move rfl (wt_none rfl) (ev_far rfl rfl) (fun _ _ h => h)) ?_
                      refine And.intro (ob_indexAddr rfl (wt_none rfl) (ev_far rfl rfl) (ev_far rfl rfl) (fun _ _ _ hx hy => ⟨_, by rw [hx, hy]; exact index3 (k := k) Tryz.underlying22 (by kernel_rfl) hltx _, rfl⟩)) ?_
                      refine And.intro (ob_load rfl (wt_none rfl) (ev_dep (j := 1) (by kernel_rfl) rfl rfl) (fun w2 hb => load3 Tryz.underlying28 rfl (by kernel_rfl) ((hb.cell (World.block_lt_of_cell? wr _ zx0)).trans zx0) ((hb.cell (World.block_lt_of_cell? wr _ zx1)).trans zx1) ((hb.cell (World.block_lt_of_cell? wr _ zx2)).trans zx2)) (fun _ _ => rfl)) ?_
                      refine And.intro (ob_alloc (z := .agg #[.bool false, .slice none 0 0, .slice none 0 0]) rfl rfl (fun _ => by kernel_rfl) (fun _ _ hB h => ⟨_, rfl, hB, h⟩)) ?_
                      refine And.intro (ob_assign rfl (wt_none rfl) (ev_dep (j := 0) (by kernel_rfl) rfl rfl) (fun _ _ h => h)) ?_
                      trivial
                    case done7 =>
                      refine fun w7 hb7 v0 h0 v1 h1 v2 h2 v3 h3 d3 v4 h4 b hbf => ?_
                      obtain rfl := h0; obtain rfl := h1; obtain rfl := h2; obtain rfl := h4
                      obtain ⟨g7_3, rfl, hg3, B3⟩ := h3
                      simp only [Act.put, List.setIfInBounds_toArray, List.set_cons_zero, List.set_cons_succ] at hbf
                      subst hbf
                      replace RN := RN.below hb7
                      replace zxs := zxs.below hb7
                      replace zxd := zxd.below hb7
                      replace bb := bb.trans (hb7.mono bb.size)
                      have hsz7 := bb.size
                      have BA10 := B3
                      have q2 := zxs
                      have d2 := zxd
                      refine ops_store (i := 5) rfl rfl rfl rfl rfl rfl (cells := [.bool (ngB (x).num), .slice Ax (digs 4294967296 (x).num.natAbs).length cx, .slice Dx (digs 4294967296 (x).den).length ex]) rfl BA10 rfl (by kernel_rfl) (one3 rfl rfl rfl) fun w8 hg8 BN8 => ?_
                      replace q2 := off q2 BA10 no_ints3 hg8
                      replace d2 := off d2 BA10 no_ints3 hg8
                      replace RN := RowN.offb RN BA10 no_ints3 hg8 (by omega)
                      replace bb := bb.trans ((Below.refl _ _).grown hg8 bb.size (fun g hg => by injection hg with hg; omega))
                      have hsz8 := bb.size
                      have Bx : Blk w8 (g7_3) _ _ := BN8
                      have kxs := q2
                      have kxd := d2
                      have kxz : IsZ w8 (.agg #[.bool (ngB (x).num), .slice Ax (digs 4294967296 (x).num.natAbs).length cx]) ((x).num) := ⟨_, rfl, kxs⟩
                      have kx : IsQ w8 (.agg #[.bool (ngB (x).num), .slice Ax (digs 4294967296 (x).num.natAbs).length cx, .slice Dx (digs 4294967296 (x).den).length ex]) (x) := ⟨_, _, rfl, kxs, kxd⟩
                      refine ops_done ?_
                      have hG9 := Bx.lt
                      have hne9 : g ≠ g7_3 := by omega
                      obtain ⟨ua, ta, hlta, za0, za1, za2, zas, zad⟩ := RN.at_ HAT.out
                      obtain ⟨Aa, ca, rfl, _⟩ := id zas
                      obtain ⟨Da, ea, rfl, _⟩ := id zad
                      have za : IsQ w8 (.agg #[.bool (ngB (s).num), .slice Aa (digs 4294967296 (s).num.natAbs).length ca, .slice Da (digs 4294967296 (s).den).length ea]) (s) := ⟨_, _, rfl, zas, zad⟩
                      have sB := bb.size
                      go_upto_region 16 with (fail)
                      refine flow 9 [Pd.eq (.slice (some ⟨g, 0, none⟩) p.length p.length), Pd.eq (.int .i64 (k : Int)), Pd.eq (.slice (some ⟨g, 0, none⟩) p.length p.length), Pd.eq (.int .i64 (k : Int)), Pd.eq (.pointer (some ⟨g, 0 + k * 3, none⟩)), Pd.eq (.agg #[.bool (ngB (s).num), .slice Aa (digs 4294967296 (s).num.natAbs).length ca, .slice Da (digs 4294967296 (s).den).length ea]), Pd.eq (.agg #[.bool (ngB (x).num), .slice Ax (digs 4294967296 (x).num.natAbs).length cx, .slice Dx (digs 4294967296 (x).den).length ex]), pq ((s + x)) w8.heap.size, Pd.eq (.pointer (some ⟨g, 0 + k * 3, none⟩))] (by kernel_rfl) (by kernel_rfl) ?ob8 ?done8
                      case ob8 =>
                        refine And.intro (ob_move rfl (wt_none rfl) (ev_far rfl rfl) (fun _ _ h => h)) ?_
                        refine And.intro (ob_move rfl (wt_none rfl) (ev_far rfl rfl) (fun _ _ h => h)) ?_
                        refine And.intro (ob_move rfl (wt_none rfl) (ev_far rfl rfl) (fun _ _ h => h)) ?_
                        refine And.intro (ob_move rfl (wt_none rfl) (ev_far rfl rfl) (fun _ _ h => h)) ?_
                        refine And.intro (ob_indexAddr rfl (wt_none rfl) (ev_dep (j := 2) (by kernel_rfl) rfl rfl) (ev_dep (j := 3) (by kernel_rfl) rfl rfl) (fun _ _ _ hx hy => ⟨_, by rw [hx, hy]; exact index3 (k := k) Tryz.underlying22 (by kernel_rfl) hlta _, rfl⟩)) ?_
                        refine And.intro (ob_load rfl (wt_none rfl) (ev_dep (j := 4) (by kernel_rfl) rfl rfl) (fun w2 hb => load3 Tryz.underlying28 rfl (by kernel_rfl) ((hb.cell (World.block_lt_of_cell? w8 _ za0)).trans za0) ((hb.cell (World.block_lt_of_cell? w8 _ za1)).trans za1) ((hb.cell (World.block_lt_of_cell? w8 _ za2)).trans za2)) (fun _ _ => rfl)) ?_
                        refine And.intro (ob_load rfl (wt_none rfl) (ev_far rfl rfl) (fun w2 hb => run_loadAll Tryz.underlying28 rfl (by kernel_rfl) (Bx.drew.below hb)) (fun _ _ => rfl)) ?_
                        refine And.intro (ob_call2 rfl Tryz.func31 (by kernel_rfl) (wt_none rfl) (ev_dep (j := 5) (by kernel_rfl) rfl rfl) (ev_dep (j := 6) (by kernel_rfl) rfl rfl) (fun w2 u0 u1 hb h0 h1 => by obtain rfl := h0; obtain rfl := h1; exact (add8_any _ s _ x _ (za.drew.below hb) (kx.drew.below hb) (ls.mono (by decide)) (lx.mono (by decide))).mono fun e w3 h => RetQ.pd h hb.size)) ?_
                        refine And.intro (ob_indexAddr rfl (wt_none rfl) (ev_dep (j := 0) (by kernel_rfl) rfl rfl) (ev_dep (j := 1) (by kernel_rfl) rfl rfl) (fun _ _ _ hx hy => ⟨_, by rw [hx, hy]; exact index3 (k := k) Tryz.underlying22 (by kernel_rfl) hlp _, rfl⟩)) ?_
                        trivial
                      case done8 =>
                        refine fun w9 hb9 v0 h0 v1 h1 v2 h2 v3 h3 v4 h4 v5 h5 v6 h6 v7 h7 v8 h8 b hbf => ?_
                        obtain rfl := h0; obtain rfl := h1; obtain rfl := h2; obtain rfl := h3; obtain rfl := h4; obtain rfl := h5; obtain rfl := h6; obtain rfl := h8
                        obtain ⟨q7, f7⟩ := h7
                        simp only [Act.put, List.setIfInBounds_toArray, List.set_cons_zero, List.set_cons_succ] at hbf
                        subst hbf
                        replace Bx := Bx.below hb9
                        replace kxs := kxs.below hb9
                        replace kxd := kxd.below hb9
                        replace kxz := kxz.below hb9
                        replace kx := kx.below hb9
                        replace RN := RN.below hb9
                        replace bb := bb.trans (hb9.mono bb.size)
                        have hsz9 := bb.size
                        have s_7 := sB
                        obtain ⟨u7, t7, rfl, q7, d7⟩ := q7
                        obtain ⟨A9, c9, rfl, _⟩ := id q7
                        obtain ⟨D9, e9, rfl, _⟩ := id d7
                        refine any_store_q (j := 9) (by kernel_rfl) rfl rfl rfl rfl (g := g) (i := k) (q := (s + x)) rfl rfl (by kernel_rfl) RN hlp q7 d7 fun w10 hg10 hP10 => ?_
                        replace kxs := RN.keep hg10 kxs
                        replace kxd := RN.keep hg10 kxd
                        replace kxz : IsZ w10 (.agg #[.bool (ngB (x).num), .slice Ax (digs 4294967296 (x).num.natAbs).length cx]) ((x).num) := ⟨_, rfl, kxs⟩
                        replace kx : IsQ w10 (.agg #[.bool (ngB (x).num), .slice Ax (digs 4294967296 (x).num.natAbs).length cx, .slice Dx (digs 4294967296 (x).den).length ex]) (x) := ⟨_, _, rfl, kxs, kxd⟩
                        replace Bx := Bx.grown hg10 (by omega)
                        replace bb := bb.trans ((Below.refl _ _).grown hg10 bb.size (fun g hg => by injection hg with hg; omega))
                        have hsz10 := bb.size
                        replace RN := hP10.2 HFL.out
                        clear hP10
                        refine any_done (by kernel_rfl) ?_
                        rw [HFS.out] at RN
                        have hsk : r.length - (k + 1) < r.length - k := by omega
                        go_wp2
                        go_roundw
                        case rel => exact ⟨k + 1, by omega, RN, bb, by go_num⟩
                        case measure => simp [intOf]; omega
                  · have HE2 : Hid ((addq (accq p q m) r).take k ++ (accq p q m).drop k = accq p q (m + 1)) := by
                      show _ = _
                      rw [List.take_of_length_le (by rw [HAR.out, HAL.out]; have := HRL.out; omega), List.drop_eq_nil_of_le (by rw [HAL.out]; have := HRL.out; omega), List.append_nil, HAS.out]
                    rw [HE2.out] at RN
                    go_wp2
                    refine ⟨⟨m + 1, by omega, RN, bb, by go_num⟩, ?_⟩
                    simp [intOf]; omega
            · obtain rfl : m = 2 := by omega
              have he := HE.out
              have HAL : Hid ((addq p q).length = p.length) := addq_len he
              have hS : SlF .u64 4294967296 wr (.slice (some ⟨g, 0, none⟩) p.length p.length) (addq p q) := RN.sl HAL.out (by omega)
              clear RN
              go_wp2
              go_ret2
              exact .inl ⟨he, _, rfl, by rw [if_pos rfl]; exact hS, bb⟩
theorem fvadd_ok (a0 : Value) (p q : List Rat) (w : World) (h0 : Two w a0 p q) (he : p.length = q.length) (hl : p.length ≤ 8 ∧ (∀ x ∈ p, lenQ x 1) ∧ ∀ x ∈ q, lenQ x 1) : Calls Tryz.prog 7 #[a0] w (RetQLE (addq p q) 0 w) :=
  (fvadd_both a0 p q w h0 hl).mono fun e w' h => by
    rcases h with ⟨_, h⟩ | ⟨h, _⟩
    · exact h
    · exact absurd he h
theorem fvadd_no (a0 : Value) (p q : List Rat) (w : World) (h0 : Two w a0 p q) (he : p.length ≠ q.length) (hl : p.length ≤ 8 ∧ q.length ≤ 8 ∧ (∀ x ∈ p, lenQ x 1) ∧ ∀ x ∈ q, lenQ x 1) : Calls Tryz.prog 7 #[a0] w (RetQLE [] 8 w) :=
  (fvadd_both a0 p q w h0 ⟨hl.1, hl.2.2⟩).mono fun e w' h => by
    rcases h with ⟨h, _⟩ | ⟨_, h⟩
    · exact absurd h he
    · exact h.qle
end Go.Proofs.YtodpjmbclmlieaaGreat.rat
