/- Package rat: its own contracts, each said of fractions: Same, One, May. Condition: as each says.
A region that draws its order, a chain of whose operations may come behind the first store and reads what was there: the stores write new variables alone, so it yields the same then. No program stands here.
Rows of fractions that the call makes at their full length: one block, written element by element; calls through a function's value. Condition: as each says.
Rows that a call makes, and hands on: words for its end. Condition: as each says.
Tables that a call makes at their full length: one block of slices, written place by place; rows of the call's own that grow within such a table. Condition: as each says.
Rows of tables, as a variadic call takes them: written out in a region; read. Condition: as each says.
Tables of fractions: what loops over rows and places keep; rows of tables multiplied, laid side by side; how long numbers grow. Mathematics alone.
Package vect: noughts, Zero, Unit. Condition: as each says.
Package vect: vanishes, Scale, Dot, Lead. Condition: as each says.
Package vect: own, EqualFunc, Less, Same, Greatest. Condition: as each says.
Package matrix: what only reads: Size, fit, alike, Same; the document's Wide; the statements' even, Is. Condition: as each says.
Package matrix: whether a table may be (a function's value with a captured variable), Check. Condition: as each says.
Rows of one fraction written out in a region; a table's place; what the types of rows and tables are. Condition: as each says.
Package matrix: copied, bare, dots, Column. Condition: as each says.
Rows of the call's own that grow within a table of its own: how what was there stays. Condition: as each says.
Package matrix: appended. Condition: as each says.
Package matrix: joined, turned: rows of the call's own that grow within a table. Condition: as each says.
Package matrix: turned. Condition: as each says.
Package matrix: product, Ident, Add, Apply, Turn. Condition: as each says. -/
import Derived.Test.YtpcdkepkipadaaaGreatKD3
import Derived.OrdersHeld
import Derived.Deep.RegionHeld3
namespace Go.Proofs.YtpcdkepkipadaaaGreat.rat
open Go.RowKit Go.Proofs.YtpcdkepkipadaaaGreat.num Go.Proofs.YtpcdkepkipadaaaGreat.mem Go.Proofs.YtpcdkepkipadaaaGreat.nat Go.Proofs.YtpcdkepkipadaaaGreat.txt Go.Proofs.YtpcdkepkipadaaaGreat.str Go.Proofs.YtpcdkepkipadaaaGreat.flow Go.Proofs.YtpcdkepkipadaaaGreat.whl
set_option linter.unusedVariables false
theorem limbs_any (v u : Value) (l m : List Nat) (b : Bool) (w : World) (h : IsS w .u64 v l) (h' : IsS w .u64 u m) (hu : Lt 18446744073709551616 l) (hu' : Lt 18446744073709551616 m) (hb_ : b = sameB l m) :
    Calls Tryz.prog 92 #[v, u] w (RetV (.bool b) w) := by
  have HB := Lib.hid hb_
  clear hb_
  obtain ⟨A, c, rfl, hc, hm, hr⟩ := h
  obtain ⟨A', c', rfl, hc', hmm, hr'⟩ := h'
  unfold maxLen at hm hmm
  by_cases hne : l.length = m.length
  · have hb1 : ((l.length : Int) != (m.length : Int)) = false := by rw [hne]; simp
    have HL := Lib.hid hne
    have hl1 : l.length ≤ m.length := by omega
    have hl2 : m.length ≤ l.length := by omega
    clear hne
    go_enter Tryz.func92, Tryz.ntmps92
    go_wp2
    go_loopw [13] (fun vi wr => ∃ k : Nat, k ≤ l.length ∧ Hid (l.take k = m.take k) ∧ Below w.heap.size w wr ∧ vi = .int .i64 (k : Int)) (fun vi _ => l.length - (intOf vi).toNat)
    case atStart => exact ⟨0, by omega, by show _ = _; simp, Below.refl _ _, rfl⟩
    case round =>
      obtain ⟨k, hk, HT, hb, rfl⟩ := hrel
      by_cases hlt : k < l.length
      · obtain ⟨ad, d, rfl, hd, hcell⟩ := (hr.below hb).at_ hlt
        obtain ⟨ad', e, rfl, he, hcell'⟩ := (hr'.below hb).at_ (i := k) (by omega)
        by_cases hde : d = e
        · subst hde
          have HN : Hid (l.take (k + 1) = m.take (k + 1)) := by show _ = _; rw [take_step hd, take_step he, HT.out]
          have hz : ((d : Int) != (d : Int)) = false := by simp
          clear hd he
          go_wp2
          go_quiet (fail)
          go_wp2
          go_roundw
          case rel => exact ⟨k + 1, by omega, HN, below_drewN hb _, by go_num⟩
          case measure => simp [intOf]; omega
        · have HN : Hid (sameB l m = false) := sameB_at hd he hde
          have hz : ((d : Int) != (e : Int)) = true := by rw [bne_iff_ne]; omega
          clear hd he hde
          go_wp2
          go_quiet (fail)
          go_wp2
          go_ret
          exact ⟨by rw [HB.out, HN.out]; rfl, below_drewN hb _⟩
      · obtain rfl : k = l.length := by omega
        have HN : Hid (sameB l m = true) := by
          have := HT.out
          rw [List.take_length, List.take_of_length_le hl2] at this
          rw [this]; exact sameB_refl m
        go_wp2
        go_ret
        exact ⟨by rw [HB.out, HN.out]; rfl, hb⟩
  · have hb1 : ((l.length : Int) != (m.length : Int)) = true := by rw [bne_iff_ne]; omega
    have HN : Hid (sameB l m = false) := sameB_of_len hne
    clear hne
    go_enter Tryz.func92, Tryz.ntmps92
    go_wp2
    go_ret
    exact ⟨by rw [HB.out, HN.out]; rfl, Below.refl _ _⟩
theorem limbs_num (v u : Value) (x y : Nat) (b : Bool) (w : World) (h : IsS w .u64 v (digs 4294967296 x)) (h' : IsS w .u64 u (digs 4294967296 y)) (hb : b = decide (x = y)) :
    Calls Tryz.prog 92 #[v, u] w (RetV (.bool b) w) :=
  limbs_any v u _ _ b w h h' (digs_lt_u x) (digs_lt_u y) (by rw [hb, sameB_digs])
set_option maxHeartbeats 1600000 in
set_option maxRecDepth 100000 in
theorem same8_any (a0 a1 : Value) (x y : Rat) (b : Bool) (w : World) (h0 : IsQ w a0 x) (h1 : IsQ w a1 y) (hb : b = decide (x = y)) :
    Calls Tryz.prog 52 #[a0, a1] w (RetV (.bool b) w) := by
  by_cases hs : ngB x.num = ngB y.num
  · by_cases hn : x.num.natAbs = y.num.natAbs
    · obtain ⟨u0, t0, rfl, s0, r0⟩ := h0
      obtain ⟨A0, c0, rfl, _⟩ := id s0
      obtain ⟨D0, e0, rfl, _⟩ := id r0
      obtain ⟨u1, t1, rfl, s1, r1⟩ := h1
      obtain ⟨A1, c1, rfl, _⟩ := id s1
      obtain ⟨D1, e1, rfl, _⟩ := id r1
      have HE : Hid ((ngB x.num == ngB y.num) = true) := by show _ = _; rw [hs]; exact beq_self_eq_true _
      have HB : Hid (b = decide (x.den = y.den)) := by show _ = _; rw [hb, decide_eq_decide, eq_parts]; exact ⟨fun e => e.2, fun e => ⟨by rw [← sg_self x.num, ← sg_self y.num, hs, hn], e⟩⟩
      clear hb hs
      have HN : Hid (true = decide (x.num.natAbs = y.num.natAbs)) := (decide_eq_true hn).symm
      clear hn
      go_enter Tryz.func52, Tryz.ntmps52
      go_upto_region 1 with (fail)
      obtain ⟨wx, hwx, bb, B0, B1, hsz⟩ := vars2 w 36 36 #[.bool (ngB (x).num), .slice A0 (digs 4294967296 (x).num.natAbs).length c0, .slice D0 (digs 4294967296 (x).den).length e0] #[.bool (ngB (y).num), .slice A1 (digs 4294967296 (y).num.natAbs).length c1, .slice D1 (digs 4294967296 (y).den).length e1]
      rw [hwx]
      clear hwx
      have k0s := s0.below bb
      have k0d := r0.below bb
      have k0z : IsZ wx (.agg #[.bool (ngB (x).num), .slice A0 (digs 4294967296 (x).num.natAbs).length c0]) (x).num := ⟨_, rfl, k0s⟩
      have k0 : IsQ wx (.agg #[.bool (ngB (x).num), .slice A0 (digs 4294967296 (x).num.natAbs).length c0, .slice D0 (digs 4294967296 (x).den).length e0]) (x) := ⟨_, _, rfl, k0s, k0d⟩
      have k1s := s1.below bb
      have k1d := r1.below bb
      have k1z : IsZ wx (.agg #[.bool (ngB (y).num), .slice A1 (digs 4294967296 (y).num.natAbs).length c1]) (y).num := ⟨_, rfl, k1s⟩
      have k1 : IsQ wx (.agg #[.bool (ngB (y).num), .slice A1 (digs 4294967296 (y).num.natAbs).length c1, .slice D1 (digs 4294967296 (y).den).length e1]) (y) := ⟨_, _, rfl, k1s, k1d⟩
      have hsz0 := bb.size
      have sB := bb.size
      refine flowp 24 [Pd.eq (.pointer (some ⟨w.heap.size, 0, none⟩)), Pd.eq (.pointer (some ⟨w.heap.size, 0, none⟩)), Pd.eq (.bool (ngB (x).num)), Pd.eq (.pointer (some ⟨w.heap.size + 1, 0, none⟩)), Pd.eq (.pointer (some ⟨w.heap.size + 1, 0, none⟩)), Pd.eq (.bool (ngB (y).num)), Pd.eq (.bool true), Pd.eq (.bool true), Pd.eq (.pointer (some ⟨w.heap.size, 0, none⟩)), Pd.eq (.pointer (some ⟨w.heap.size, 1, none⟩)), Pd.eq (.slice A0 (digs 4294967296 (x).num.natAbs).length c0), Pd.eq (.pointer (some ⟨w.heap.size + 1, 0, none⟩)), Pd.eq (.pointer (some ⟨w.heap.size + 1, 1, none⟩)), Pd.eq (.slice A1 (digs 4294967296 (y).num.natAbs).length c1), Pd.eq (.bool true), Pd.eq (.bool true), Pd.eq (.bool true), Pd.eq (.pointer (some ⟨w.heap.size, 2, none⟩)), Pd.eq (.slice D0 (digs 4294967296 (x).den).length e0), Pd.eq (.pointer (some ⟨w.heap.size + 1, 2, none⟩)), Pd.eq (.slice D1 (digs 4294967296 (y).den).length e1), Pd.eq (.bool b), Pd.eq (.bool b), Pd.eq (.bool b)] (by kernel_rfl) ?ob46 ?done46
      case ob46 =>
        refine And.intro (ob_fieldAddr rfl (wt_none rfl) (ev_far rfl rfl) (fun _ => by kernel_rfl) (fun _ => rfl)) ?_
        refine And.intro (ob_fieldAddr rfl (wt_none rfl) (ev_dep (j := 0) (by kernel_rfl) rfl rfl) (fun _ => by kernel_rfl) (fun _ => rfl)) ?_
        refine And.intro (ob_load rfl (wt_none rfl) (ev_dep (j := 1) (by kernel_rfl) rfl rfl) (fun w2 hb => run_load1 Tryz.underlying4 rfl ((B0.below hb).cell 0)) (fun _ _ => rfl)) ?_
        refine And.intro (ob_fieldAddr rfl (wt_none rfl) (ev_far rfl rfl) (fun _ => by kernel_rfl) (fun _ => rfl)) ?_
        refine And.intro (ob_fieldAddr rfl (wt_none rfl) (ev_dep (j := 3) (by kernel_rfl) rfl rfl) (fun _ => by kernel_rfl) (fun _ => rfl)) ?_
        refine And.intro (ob_load rfl (wt_none rfl) (ev_dep (j := 4) (by kernel_rfl) rfl rfl) (fun w2 hb => run_load1 Tryz.underlying4 rfl ((B1.below hb).cell 0)) (fun _ _ => rfl)) ?_
        refine And.intro (ob_bin rfl (wt_none rfl) (ev_dep (j := 2) (by kernel_rfl) rfl rfl) (ev_dep (j := 5) (by kernel_rfl) rfl rfl) (fun _ _ _ hx hy => ⟨.bool true, by rw [hx, hy]; exact (bin_eql_bool _ _ _ _ Tryz.underlying4 _).trans (by rw [HE.out]), rfl⟩)) ?_
        refine And.intro (ob_move rfl (wt_none rfl) (ev_dep (j := 6) (by kernel_rfl) rfl rfl) (fun _ _ h => h)) ?_
        refine And.intro (ob_fieldAddr rfl (wt_dep (c := true) (b := true) (g := 7) rfl (by kernel_rfl) rfl rfl rfl (by exact fun _ _ h => h)) (ev_far rfl rfl) (fun _ => by kernel_rfl) (fun _ => rfl)) ?_
        refine And.intro (ob_fieldAddr rfl (wt_dep (c := true) (b := true) (g := 7) rfl (by kernel_rfl) rfl rfl rfl (by exact fun _ _ h => h)) (ev_dep (j := 8) (by kernel_rfl) rfl rfl) (fun _ => by kernel_rfl) (fun _ => rfl)) ?_
        refine And.intro (ob_load rfl (wt_dep (c := true) (b := true) (g := 7) rfl (by kernel_rfl) rfl rfl rfl (by exact fun _ _ h => h)) (ev_dep (j := 9) (by kernel_rfl) rfl rfl) (fun w2 hb => run_load1 Tryz.underlying32 rfl ((B0.below hb).cell 1)) (fun _ _ => rfl)) ?_
        refine And.intro (ob_fieldAddr rfl (wt_dep (c := true) (b := true) (g := 7) rfl (by kernel_rfl) rfl rfl rfl (by exact fun _ _ h => h)) (ev_far rfl rfl) (fun _ => by kernel_rfl) (fun _ => rfl)) ?_
        refine And.intro (ob_fieldAddr rfl (wt_dep (c := true) (b := true) (g := 7) rfl (by kernel_rfl) rfl rfl rfl (by exact fun _ _ h => h)) (ev_dep (j := 11) (by kernel_rfl) rfl rfl) (fun _ => by kernel_rfl) (fun _ => rfl)) ?_
        refine And.intro (ob_load rfl (wt_dep (c := true) (b := true) (g := 7) rfl (by kernel_rfl) rfl rfl rfl (by exact fun _ _ h => h)) (ev_dep (j := 12) (by kernel_rfl) rfl rfl) (fun w2 hb => run_load1 Tryz.underlying32 rfl ((B1.below hb).cell 1)) (fun _ _ => rfl)) ?_
        refine And.intro (ob_call2 rfl Tryz.func92 (by kernel_rfl) (wt_dep (c := true) (b := true) (g := 7) rfl (by kernel_rfl) rfl rfl rfl (by exact fun _ _ h => h)) (ev_dep (j := 10) (by kernel_rfl) rfl rfl) (ev_dep (j := 13) (by kernel_rfl) rfl rfl) (fun w2 u0 u1 hb h0 h1 => by obtain rfl := h0; obtain rfl := h1; exact (limbs_num _ _ (x).num.natAbs (y).num.natAbs true _ (k0s.below hb) (k1s.below hb) HN.out).mono fun e w3 h => RetV.pd h)) ?_
        refine And.intro (ob_pick (b := true) rfl (wt_none rfl) (ev_dep (j := 7) (by kernel_rfl) rfl rfl) (ev_dep (j := 14) (by kernel_rfl) rfl rfl) (fun _ _ h => h)) ?_
        refine And.intro (ob_move rfl (wt_none rfl) (ev_dep (j := 15) (by kernel_rfl) rfl rfl) (fun _ _ h => h)) ?_
        refine And.intro (ob_fieldAddr rfl (wt_dep (c := true) (b := true) (g := 16) rfl (by kernel_rfl) rfl rfl rfl (by exact fun _ _ h => h)) (ev_far rfl rfl) (fun _ => by kernel_rfl) (fun _ => rfl)) ?_
        refine And.intro (ob_load rfl (wt_dep (c := true) (b := true) (g := 16) rfl (by kernel_rfl) rfl rfl rfl (by exact fun _ _ h => h)) (ev_dep (j := 17) (by kernel_rfl) rfl rfl) (fun w2 hb => run_load1 Tryz.underlying32 rfl ((B0.below hb).cell 2)) (fun _ _ => rfl)) ?_
        refine And.intro (ob_fieldAddr rfl (wt_dep (c := true) (b := true) (g := 16) rfl (by kernel_rfl) rfl rfl rfl (by exact fun _ _ h => h)) (ev_far rfl rfl) (fun _ => by kernel_rfl) (fun _ => rfl)) ?_
        refine And.intro (ob_load rfl (wt_dep (c := true) (b := true) (g := 16) rfl (by kernel_rfl) rfl rfl rfl (by exact fun _ _ h => h)) (ev_dep (j := 19) (by kernel_rfl) rfl rfl) (fun w2 hb => run_load1 Tryz.underlying32 rfl ((B1.below hb).cell 2)) (fun _ _ => rfl)) ?_
        refine And.intro (ob_call2 rfl Tryz.func92 (by kernel_rfl) (wt_dep (c := true) (b := true) (g := 16) rfl (by kernel_rfl) rfl rfl rfl (by exact fun _ _ h => h)) (ev_dep (j := 18) (by kernel_rfl) rfl rfl) (ev_dep (j := 20) (by kernel_rfl) rfl rfl) (fun w2 u0 u1 hb h0 h1 => by obtain rfl := h0; obtain rfl := h1; exact (limbs_num _ _ (x).den (y).den b _ (k0d.below hb) (k1d.below hb) HB.out).mono fun e w3 h => RetV.pd h)) ?_
        refine And.intro (ob_pick (b := true) rfl (wt_none rfl) (ev_dep (j := 16) (by kernel_rfl) rfl rfl) (ev_dep (j := 21) (by kernel_rfl) rfl rfl) (fun _ _ h => h)) ?_
        refine And.intro (ob_assign rfl (wt_none rfl) (ev_dep (j := 22) (by kernel_rfl) rfl rfl) (fun _ _ h => h)) ?_
        trivial
      case done46 =>
        refine fun w1 hb1 v0 h0 v1 h1 v2 h2 v3 h3 v4 h4 v5 h5 v6 h6 v7 h7 v8 h8 v9 h9 v10 h10 v11 h11 v12 h12 v13 h13 v14 h14 v15 h15 v16 h16 v17 h17 v18 h18 v19 h19 v20 h20 v21 h21 v22 h22 v23 h23 b hbf => ?_
        obtain rfl := h0; obtain rfl := h1; obtain rfl := h2; obtain rfl := h3; obtain rfl := h4; obtain rfl := h5; obtain rfl := h6; obtain rfl := h7; obtain rfl := h8; obtain rfl := h9; obtain rfl := h10; obtain rfl := h11; obtain rfl := h12; obtain rfl := h13; obtain rfl := h14; obtain rfl := h15; obtain rfl := h16; obtain rfl := h17; obtain rfl := h18; obtain rfl := h19; obtain rfl := h20; obtain rfl := h21; obtain rfl := h22; obtain rfl := h23
        simp only [Act.put, List.setIfInBounds_toArray, List.set_cons_zero, List.set_cons_succ] at hbf
        subst hbf
        replace B0 := B0.below hb1
        replace k0s := k0s.below hb1
        replace k0d := k0d.below hb1
        replace k0z := k0z.below hb1
        replace k0 := k0.below hb1
        replace B1 := B1.below hb1
        replace k1s := k1s.below hb1
        replace k1d := k1d.below hb1
        replace k1z := k1z.below hb1
        replace k1 := k1.below hb1
        replace bb := bb.trans (hb1.mono bb.size)
        have hsz1 := bb.size
        refine ops_done ?_
        go_wp2
        go_ret
        exact ⟨rfl, bb⟩
    · obtain ⟨u0, t0, rfl, s0, r0⟩ := h0
      obtain ⟨A0, c0, rfl, _⟩ := id s0
      obtain ⟨D0, e0, rfl, _⟩ := id r0
      obtain ⟨u1, t1, rfl, s1, r1⟩ := h1
      obtain ⟨A1, c1, rfl, _⟩ := id s1
      obtain ⟨D1, e1, rfl, _⟩ := id r1
      have HE : Hid ((ngB x.num == ngB y.num) = true) := by show _ = _; rw [hs]; exact beq_self_eq_true _
      obtain rfl : b = false := by rw [hb, decide_eq_false_iff_not]; exact fun e => hn (by rw [e])
      clear hb hs
      have HN : Hid (false = decide (x.num.natAbs = y.num.natAbs)) := (decide_eq_false hn).symm
      clear hn
      go_enter Tryz.func52, Tryz.ntmps52
      go_upto_region 1 with (fail)
      obtain ⟨wx, hwx, bb, B0, B1, hsz⟩ := vars2 w 36 36 #[.bool (ngB (x).num), .slice A0 (digs 4294967296 (x).num.natAbs).length c0, .slice D0 (digs 4294967296 (x).den).length e0] #[.bool (ngB (y).num), .slice A1 (digs 4294967296 (y).num.natAbs).length c1, .slice D1 (digs 4294967296 (y).den).length e1]
      rw [hwx]
      clear hwx
      have k0s := s0.below bb
      have k0d := r0.below bb
      have k0z : IsZ wx (.agg #[.bool (ngB (x).num), .slice A0 (digs 4294967296 (x).num.natAbs).length c0]) (x).num := ⟨_, rfl, k0s⟩
      have k0 : IsQ wx (.agg #[.bool (ngB (x).num), .slice A0 (digs 4294967296 (x).num.natAbs).length c0, .slice D0 (digs 4294967296 (x).den).length e0]) (x) := ⟨_, _, rfl, k0s, k0d⟩
      have k1s := s1.below bb
      have k1d := r1.below bb
      have k1z : IsZ wx (.agg #[.bool (ngB (y).num), .slice A1 (digs 4294967296 (y).num.natAbs).length c1]) (y).num := ⟨_, rfl, k1s⟩
      have k1 : IsQ wx (.agg #[.bool (ngB (y).num), .slice A1 (digs 4294967296 (y).num.natAbs).length c1, .slice D1 (digs 4294967296 (y).den).length e1]) (y) := ⟨_, _, rfl, k1s, k1d⟩
      have hsz0 := bb.size
      have sB := bb.size
      refine flowp 24 [Pd.eq (.pointer (some ⟨w.heap.size, 0, none⟩)), Pd.eq (.pointer (some ⟨w.heap.size, 0, none⟩)), Pd.eq (.bool (ngB (x).num)), Pd.eq (.pointer (some ⟨w.heap.size + 1, 0, none⟩)), Pd.eq (.pointer (some ⟨w.heap.size + 1, 0, none⟩)), Pd.eq (.bool (ngB (y).num)), Pd.eq (.bool true), Pd.eq (.bool true), Pd.eq (.pointer (some ⟨w.heap.size, 0, none⟩)), Pd.eq (.pointer (some ⟨w.heap.size, 1, none⟩)), Pd.eq (.slice A0 (digs 4294967296 (x).num.natAbs).length c0), Pd.eq (.pointer (some ⟨w.heap.size + 1, 0, none⟩)), Pd.eq (.pointer (some ⟨w.heap.size + 1, 1, none⟩)), Pd.eq (.slice A1 (digs 4294967296 (y).num.natAbs).length c1), Pd.eq (.bool false), Pd.eq (.bool false), Pd.eq (.bool false), Pd.any, Pd.any, Pd.any, Pd.any, Pd.any, Pd.eq (.bool false), Pd.eq (.bool false)] (by kernel_rfl) ?ob45 ?done45
      case ob45 =>
        refine And.intro (ob_fieldAddr rfl (wt_none rfl) (ev_far rfl rfl) (fun _ => by kernel_rfl) (fun _ => rfl)) ?_
        refine And.intro (ob_fieldAddr rfl (wt_none rfl) (ev_dep (j := 0) (by kernel_rfl) rfl rfl) (fun _ => by kernel_rfl) (fun _ => rfl)) ?_
        refine And.intro (ob_load rfl (wt_none rfl) (ev_dep (j := 1) (by kernel_rfl) rfl rfl) (fun w2 hb => run_load1 Tryz.underlying4 rfl ((B0.below hb).cell 0)) (fun _ _ => rfl)) ?_
        refine And.intro (ob_fieldAddr rfl (wt_none rfl) (ev_far rfl rfl) (fun _ => by kernel_rfl) (fun _ => rfl)) ?_
        refine And.intro (ob_fieldAddr rfl (wt_none rfl) (ev_dep (j := 3) (by kernel_rfl) rfl rfl) (fun _ => by kernel_rfl) (fun _ => rfl)) ?_
        refine And.intro (ob_load rfl (wt_none rfl) (ev_dep (j := 4) (by kernel_rfl) rfl rfl) (fun w2 hb => run_load1 Tryz.underlying4 rfl ((B1.below hb).cell 0)) (fun _ _ => rfl)) ?_
        refine And.intro (ob_bin rfl (wt_none rfl) (ev_dep (j := 2) (by kernel_rfl) rfl rfl) (ev_dep (j := 5) (by kernel_rfl) rfl rfl) (fun _ _ _ hx hy => ⟨.bool true, by rw [hx, hy]; exact (bin_eql_bool _ _ _ _ Tryz.underlying4 _).trans (by rw [HE.out]), rfl⟩)) ?_
        refine And.intro (ob_move rfl (wt_none rfl) (ev_dep (j := 6) (by kernel_rfl) rfl rfl) (fun _ _ h => h)) ?_
        refine And.intro (ob_fieldAddr rfl (wt_dep (c := true) (b := true) (g := 7) rfl (by kernel_rfl) rfl rfl rfl (by exact fun _ _ h => h)) (ev_far rfl rfl) (fun _ => by kernel_rfl) (fun _ => rfl)) ?_
        refine And.intro (ob_fieldAddr rfl (wt_dep (c := true) (b := true) (g := 7) rfl (by kernel_rfl) rfl rfl rfl (by exact fun _ _ h => h)) (ev_dep (j := 8) (by kernel_rfl) rfl rfl) (fun _ => by kernel_rfl) (fun _ => rfl)) ?_
        refine And.intro (ob_load rfl (wt_dep (c := true) (b := true) (g := 7) rfl (by kernel_rfl) rfl rfl rfl (by exact fun _ _ h => h)) (ev_dep (j := 9) (by kernel_rfl) rfl rfl) (fun w2 hb => run_load1 Tryz.underlying32 rfl ((B0.below hb).cell 1)) (fun _ _ => rfl)) ?_
        refine And.intro (ob_fieldAddr rfl (wt_dep (c := true) (b := true) (g := 7) rfl (by kernel_rfl) rfl rfl rfl (by exact fun _ _ h => h)) (ev_far rfl rfl) (fun _ => by kernel_rfl) (fun _ => rfl)) ?_
        refine And.intro (ob_fieldAddr rfl (wt_dep (c := true) (b := true) (g := 7) rfl (by kernel_rfl) rfl rfl rfl (by exact fun _ _ h => h)) (ev_dep (j := 11) (by kernel_rfl) rfl rfl) (fun _ => by kernel_rfl) (fun _ => rfl)) ?_
        refine And.intro (ob_load rfl (wt_dep (c := true) (b := true) (g := 7) rfl (by kernel_rfl) rfl rfl rfl (by exact fun _ _ h => h)) (ev_dep (j := 12) (by kernel_rfl) rfl rfl) (fun w2 hb => run_load1 Tryz.underlying32 rfl ((B1.below hb).cell 1)) (fun _ _ => rfl)) ?_
        refine And.intro (ob_call2 rfl Tryz.func92 (by kernel_rfl) (wt_dep (c := true) (b := true) (g := 7) rfl (by kernel_rfl) rfl rfl rfl (by exact fun _ _ h => h)) (ev_dep (j := 10) (by kernel_rfl) rfl rfl) (ev_dep (j := 13) (by kernel_rfl) rfl rfl) (fun w2 u0 u1 hb h0 h1 => by obtain rfl := h0; obtain rfl := h1; exact (limbs_num _ _ (x).num.natAbs (y).num.natAbs false _ (k0s.below hb) (k1s.below hb) HN.out).mono fun e w3 h => RetV.pd h)) ?_
        refine And.intro (ob_pick (b := true) rfl (wt_none rfl) (ev_dep (j := 7) (by kernel_rfl) rfl rfl) (ev_dep (j := 14) (by kernel_rfl) rfl rfl) (fun _ _ h => h)) ?_
        refine And.intro (ob_move rfl (wt_none rfl) (ev_dep (j := 15) (by kernel_rfl) rfl rfl) (fun _ _ h => h)) ?_
        refine And.intro (ob_not (wt_dep (c := false) (b := true) (g := 16) rfl (by kernel_rfl) rfl rfl rfl (by exact fun _ _ h => h)) (fun _ => trivial) rfl) ?_
        refine And.intro (ob_not (wt_dep (c := false) (b := true) (g := 16) rfl (by kernel_rfl) rfl rfl rfl (by exact fun _ _ h => h)) (fun _ => trivial) rfl) ?_
        refine And.intro (ob_not (wt_dep (c := false) (b := true) (g := 16) rfl (by kernel_rfl) rfl rfl rfl (by exact fun _ _ h => h)) (fun _ => trivial) rfl) ?_
        refine And.intro (ob_not (wt_dep (c := false) (b := true) (g := 16) rfl (by kernel_rfl) rfl rfl rfl (by exact fun _ _ h => h)) (fun _ => trivial) rfl) ?_
        refine And.intro (ob_not (wt_dep (c := false) (b := true) (g := 16) rfl (by kernel_rfl) rfl rfl rfl (by exact fun _ _ h => h)) (fun _ => trivial) rfl) ?_
        refine And.intro (ob_pick (b := false) rfl (wt_none rfl) (ev_dep (j := 16) (by kernel_rfl) rfl rfl) (ev_const _) (fun _ _ h => h)) ?_
        refine And.intro (ob_assign rfl (wt_none rfl) (ev_dep (j := 22) (by kernel_rfl) rfl rfl) (fun _ _ h => h)) ?_
        trivial
      case done45 =>
        refine fun w1 hb1 v0 h0 v1 h1 v2 h2 v3 h3 v4 h4 v5 h5 v6 h6 v7 h7 v8 h8 v9 h9 v10 h10 v11 h11 v12 h12 v13 h13 v14 h14 v15 h15 v16 h16 v17 h17 v18 h18 v19 h19 v20 h20 v21 h21 v22 h22 v23 h23 b hbf => ?_
        obtain rfl := h0; obtain rfl := h1; obtain rfl := h2; obtain rfl := h3; obtain rfl := h4; obtain rfl := h5; obtain rfl := h6; obtain rfl := h7; obtain rfl := h8; obtain rfl := h9; obtain rfl := h10; obtain rfl := h11; obtain rfl := h12; obtain rfl := h13; obtain rfl := h14; obtain rfl := h15; obtain rfl := h16; obtain rfl := h22; obtain rfl := h23
        clear h17
        clear h18
        clear h19
        clear h20
        clear h21
        simp only [Act.put, List.setIfInBounds_toArray, List.set_cons_zero, List.set_cons_succ] at hbf
        subst hbf
        replace B0 := B0.below hb1
        replace k0s := k0s.below hb1
        replace k0d := k0d.below hb1
        replace k0z := k0z.below hb1
        replace k0 := k0.below hb1
        replace B1 := B1.below hb1
        replace k1s := k1s.below hb1
        replace k1d := k1d.below hb1
        replace k1z := k1z.below hb1
        replace k1 := k1.below hb1
        replace bb := bb.trans (hb1.mono bb.size)
        have hsz1 := bb.size
        refine ops_done ?_
        go_wp2
        go_ret
        exact ⟨rfl, bb⟩
  · obtain ⟨u0, t0, rfl, s0, r0⟩ := h0
    obtain ⟨A0, c0, rfl, _⟩ := id s0
    obtain ⟨D0, e0, rfl, _⟩ := id r0
    obtain ⟨u1, t1, rfl, s1, r1⟩ := h1
    obtain ⟨A1, c1, rfl, _⟩ := id s1
    obtain ⟨D1, e1, rfl, _⟩ := id r1
    obtain rfl : b = false := by rw [hb, decide_eq_false_iff_not]; exact fun e => hs (by rw [e])
    clear hb
    have HE : Hid ((ngB x.num == ngB y.num) = false) := by show _ = _; rw [beq_eq_false_iff_ne]; exact hs
    clear hs
    go_enter Tryz.func52, Tryz.ntmps52
    go_upto_region 1 with (fail)
    obtain ⟨wx, hwx, bb, B0, B1, hsz⟩ := vars2 w 36 36 #[.bool (ngB (x).num), .slice A0 (digs 4294967296 (x).num.natAbs).length c0, .slice D0 (digs 4294967296 (x).den).length e0] #[.bool (ngB (y).num), .slice A1 (digs 4294967296 (y).num.natAbs).length c1, .slice D1 (digs 4294967296 (y).den).length e1]
    rw [hwx]
    clear hwx
    have k0s := s0.below bb
    have k0d := r0.below bb
    have k0z : IsZ wx (.agg #[.bool (ngB (x).num), .slice A0 (digs 4294967296 (x).num.natAbs).length c0]) (x).num := ⟨_, rfl, k0s⟩
    have k0 : IsQ wx (.agg #[.bool (ngB (x).num), .slice A0 (digs 4294967296 (x).num.natAbs).length c0, .slice D0 (digs 4294967296 (x).den).length e0]) (x) := ⟨_, _, rfl, k0s, k0d⟩
    have k1s := s1.below bb
    have k1d := r1.below bb
    have k1z : IsZ wx (.agg #[.bool (ngB (y).num), .slice A1 (digs 4294967296 (y).num.natAbs).length c1]) (y).num := ⟨_, rfl, k1s⟩
    have k1 : IsQ wx (.agg #[.bool (ngB (y).num), .slice A1 (digs 4294967296 (y).num.natAbs).length c1, .slice D1 (digs 4294967296 (y).den).length e1]) (y) := ⟨_, _, rfl, k1s, k1d⟩
    have hsz0 := bb.size
    have sB := bb.size
    refine flowp 24 [Pd.eq (.pointer (some ⟨w.heap.size, 0, none⟩)), Pd.eq (.pointer (some ⟨w.heap.size, 0, none⟩)), Pd.eq (.bool (ngB (x).num)), Pd.eq (.pointer (some ⟨w.heap.size + 1, 0, none⟩)), Pd.eq (.pointer (some ⟨w.heap.size + 1, 0, none⟩)), Pd.eq (.bool (ngB (y).num)), Pd.eq (.bool false), Pd.eq (.bool false), Pd.any, Pd.any, Pd.any, Pd.any, Pd.any, Pd.any, Pd.any, Pd.eq (.bool false), Pd.eq (.bool false), Pd.any, Pd.any, Pd.any, Pd.any, Pd.any, Pd.eq (.bool false), Pd.eq (.bool false)] (by kernel_rfl) ?ob44 ?done44
    case ob44 =>
      refine And.intro (ob_fieldAddr rfl (wt_none rfl) (ev_far rfl rfl) (fun _ => by kernel_rfl) (fun _ => rfl)) ?_
      refine And.intro (ob_fieldAddr rfl (wt_none rfl) (ev_dep (j := 0) (by kernel_rfl) rfl rfl) (fun _ => by kernel_rfl) (fun _ => rfl)) ?_
      refine And.intro (ob_load rfl (wt_none rfl) (ev_dep (j := 1) (by kernel_rfl) rfl rfl) (fun w2 hb => run_load1 Tryz.underlying4 rfl ((B0.below hb).cell 0)) (fun _ _ => rfl)) ?_
      refine And.intro (ob_fieldAddr rfl (wt_none rfl) (ev_far rfl rfl) (fun _ => by kernel_rfl) (fun _ => rfl)) ?_
      refine And.intro (ob_fieldAddr rfl (wt_none rfl) (ev_dep (j := 3) (by kernel_rfl) rfl rfl) (fun _ => by kernel_rfl) (fun _ => rfl)) ?_
      refine And.intro (ob_load rfl (wt_none rfl) (ev_dep (j := 4) (by kernel_rfl) rfl rfl) (fun w2 hb => run_load1 Tryz.underlying4 rfl ((B1.below hb).cell 0)) (fun _ _ => rfl)) ?_
      refine And.intro (ob_bin rfl (wt_none rfl) (ev_dep (j := 2) (by kernel_rfl) rfl rfl) (ev_dep (j := 5) (by kernel_rfl) rfl rfl) (fun _ _ _ hx hy => ⟨.bool false, by rw [hx, hy]; exact (bin_eql_bool _ _ _ _ Tryz.underlying4 _).trans (by rw [HE.out]), rfl⟩)) ?_
      refine And.intro (ob_move rfl (wt_none rfl) (ev_dep (j := 6) (by kernel_rfl) rfl rfl) (fun _ _ h => h)) ?_
      refine And.intro (ob_not (wt_dep (c := false) (b := true) (g := 7) rfl (by kernel_rfl) rfl rfl rfl (by exact fun _ _ h => h)) (fun _ => trivial) rfl) ?_
      refine And.intro (ob_not (wt_dep (c := false) (b := true) (g := 7) rfl (by kernel_rfl) rfl rfl rfl (by exact fun _ _ h => h)) (fun _ => trivial) rfl) ?_
      refine And.intro (ob_not (wt_dep (c := false) (b := true) (g := 7) rfl (by kernel_rfl) rfl rfl rfl (by exact fun _ _ h => h)) (fun _ => trivial) rfl) ?_
      refine And.intro (ob_not (wt_dep (c := false) (b := true) (g := 7) rfl (by kernel_rfl) rfl rfl rfl (by exact fun _ _ h => h)) (fun _ => trivial) rfl) ?_
      refine And.intro (ob_not (wt_dep (c := false) (b := true) (g := 7) rfl (by kernel_rfl) rfl rfl rfl (by exact fun _ _ h => h)) (fun _ => trivial) rfl) ?_
      refine And.intro (ob_not (wt_dep (c := false) (b := true) (g := 7) rfl (by kernel_rfl) rfl rfl rfl (by exact fun _ _ h => h)) (fun _ => trivial) rfl) ?_
      refine And.intro (ob_not (wt_dep (c := false) (b := true) (g := 7) rfl (by kernel_rfl) rfl rfl rfl (by exact fun _ _ h => h)) (fun _ => trivial) rfl) ?_
      refine And.intro (ob_pick (b := false) rfl (wt_none rfl) (ev_dep (j := 7) (by kernel_rfl) rfl rfl) (ev_const _) (fun _ _ h => h)) ?_
      refine And.intro (ob_move rfl (wt_none rfl) (ev_dep (j := 15) (by kernel_rfl) rfl rfl) (fun _ _ h => h)) ?_
      refine And.intro (ob_not (wt_dep (c := false) (b := true) (g := 16) rfl (by kernel_rfl) rfl rfl rfl (by exact fun _ _ h => h)) (fun _ => trivial) rfl) ?_
      refine And.intro (ob_not (wt_dep (c := false) (b := true) (g := 16) rfl (by kernel_rfl) rfl rfl rfl (by exact fun _ _ h => h)) (fun _ => trivial) rfl) ?_
      refine And.intro (ob_not (wt_dep (c := false) (b := true) (g := 16) rfl (by kernel_rfl) rfl rfl rfl (by exact fun _ _ h => h)) (fun _ => trivial) rfl) ?_
      refine And.intro (ob_not (wt_dep (c := false) (b := true) (g := 16) rfl (by kernel_rfl) rfl rfl rfl (by exact fun _ _ h => h)) (fun _ => trivial) rfl) ?_
      refine And.intro (ob_not (wt_dep (c := false) (b := true) (g := 16) rfl (by kernel_rfl) rfl rfl rfl (by exact fun _ _ h => h)) (fun _ => trivial) rfl) ?_
      refine And.intro (ob_pick (b := false) rfl (wt_none rfl) (ev_dep (j := 16) (by kernel_rfl) rfl rfl) (ev_const _) (fun _ _ h => h)) ?_
      refine And.intro (ob_assign rfl (wt_none rfl) (ev_dep (j := 22) (by kernel_rfl) rfl rfl) (fun _ _ h => h)) ?_
      trivial
    case done44 =>
      refine fun w1 hb1 v0 h0 v1 h1 v2 h2 v3 h3 v4 h4 v5 h5 v6 h6 v7 h7 v8 h8 v9 h9 v10 h10 v11 h11 v12 h12 v13 h13 v14 h14 v15 h15 v16 h16 v17 h17 v18 h18 v19 h19 v20 h20 v21 h21 v22 h22 v23 h23 b hbf => ?_
      obtain rfl := h0; obtain rfl := h1; obtain rfl := h2; obtain rfl := h3; obtain rfl := h4; obtain rfl := h5; obtain rfl := h6; obtain rfl := h7; obtain rfl := h15; obtain rfl := h16; obtain rfl := h22; obtain rfl := h23
      clear h8
      clear h9
      clear h10
      clear h11
      clear h12
      clear h13
      clear h14
      clear h17
      clear h18
      clear h19
      clear h20
      clear h21
      simp only [Act.put, List.setIfInBounds_toArray, List.set_cons_zero, List.set_cons_succ] at hbf
      subst hbf
      replace B0 := B0.below hb1
      replace k0s := k0s.below hb1
      replace k0d := k0d.below hb1
      replace k0z := k0z.below hb1
      replace k0 := k0.below hb1
      replace B1 := B1.below hb1
      replace k1s := k1s.below hb1
      replace k1d := k1d.below hb1
      replace k1z := k1z.below hb1
      replace k1 := k1.below hb1
      replace bb := bb.trans (hb1.mono bb.size)
      have hsz1 := bb.size
      refine ops_done ?_
      go_wp2
      go_ret
      exact ⟨rfl, bb⟩
end Go.Proofs.YtpcdkepkipadaaaGreat.rat
namespace Go.Proofs.YtpcdkepkipadaaaGreat.flow
open Go.RowKit Go.Proofs.YtpcdkepkipadaaaGreat.num Go.Proofs.YtpcdkepkipadaaaGreat.mem
set_option linter.unusedVariables false
/-- What the chain owes: in each such state it yields a value as told, in every world that holds what was there. -/
def LatesH (P : Program) (ops : Array Oper) (L : List Oper) (Φ : List Pd) (wB w0 : World) (a0 : Act) : List Nat → Prop
  | [] => True
  | q :: qs => (∃ oq, L[q]? = some oq ∧ ∀ ms w1, St L Φ w0 oq ms w1 → ∃ v, YieldsIf P ops (fun w2 => Below wB.heap.size wB w2) oq v (putM a0 L ms) ∧ (ph Φ q).p w1 v) ∧ LatesH P ops L Φ wB w0 a0 qs
theorem LatesH.at_ {P : Program} {ops : Array Oper} {L : List Oper} {Φ : List Pd} {wB w0 : World} {a0 : Act} : ∀ (pre : List Nat) (q : Nat) (rest : List Nat), LatesH P ops L Φ wB w0 a0 (pre ++ q :: rest) → ∃ oq, L[q]? = some oq ∧ ∀ ms w1, St L Φ w0 oq ms w1 → ∃ v, YieldsIf P ops (fun w2 => Below wB.heap.size wB w2) oq v (putM a0 L ms) ∧ (ph Φ q).p w1 v
  | [], q, rest, h => h.1
  | a :: pre, q, rest, h => LatesH.at_ pre q rest h.2
section
variable {P : Program} {ops : Array Oper} {L : List Oper} {Φ : List Pd} {wB w0 : World} {a0 : Act} {o : Oper} {G : Pd} {Q : Exit → Act → World → Prop}
variable {S : World → Prop}
end
end Go.Proofs.YtpcdkepkipadaaaGreat.flow
namespace Go.Proofs.YtpcdkepkipadaaaGreat.rat
open Go.RowKit Go.Proofs.YtpcdkepkipadaaaGreat.num Go.Proofs.YtpcdkepkipadaaaGreat.mem Go.Proofs.YtpcdkepkipadaaaGreat.nat Go.Proofs.YtpcdkepkipadaaaGreat.txt Go.Proofs.YtpcdkepkipadaaaGreat.str Go.Proofs.YtpcdkepkipadaaaGreat.flow Go.Proofs.YtpcdkepkipadaaaGreat.whl
set_option linter.unusedVariables false
theorem cells3_len (p : Elt) : (cells3 p).length = 3 := rfl
theorem flat3_len (ps : List Elt) : (flat3 ps).length = ps.length * 3 := by
  induction ps with
  | nil => rfl
  | cons p ps ih => show (cells3 p ++ flat3 ps).length = _; rw [List.length_append, ih, cells3_len, List.length_cons]; omega
theorem flat3_cons (p : Elt) (ps : List Elt) : flat3 (p :: ps) = cells3 p ++ flat3 ps := rfl
theorem flat3_set : ∀ (ps : List Elt) (i : Nat) (p : Elt), i < ps.length → (flat3 ps).take (i * 3) ++ cells3 p ++ (flat3 ps).drop (i * 3 + 3) = flat3 (ps.set i p)
  | [], i, p, h => by simp at h
  | q :: ps, 0, p, h => by
    rw [List.set_cons_zero, flat3_cons, flat3_cons]
    simp [cells3]
  | q :: ps, i + 1, p, h => by
    have ih := flat3_set ps i p (by simpa using h)
    rw [List.set_cons_succ, flat3_cons, flat3_cons, ← ih, show (i + 1) * 3 = i * 3 + 1 + 1 + 1 from by omega, show i * 3 + 1 + 1 + 1 + 3 = i * 3 + 3 + 1 + 1 + 1 from by omega]
    simp [cells3]
/-- The block holds so many elements; the first ones read as these fractions. -/
def RowN (w : World) (g n : Nat) (qs : List Rat) : Prop := ∃ ps : List Elt, ps.length = n ∧ qs.length ≤ n ∧ Blk w g 36 (flat3 ps).toArray ∧ (∀ p ∈ ps, (∃ A m c, p.2.1 = .slice A m c) ∧ ∃ A m c, p.2.2 = .slice A m c) ∧ ∀ (i : Nat) (q : Rat), qs[i]? = some q → ∃ p, ps[i]? = some p ∧ p.1 = q ∧ IsE .u64 4294967296 w p
theorem RowN.below {w w' : World} {g n : Nat} {qs : List Rat} (h : RowN w g n qs) (hb : Below w.heap.size w w') : RowN w' g n qs := by
  obtain ⟨ps, h1, h2, h3, h4, h5⟩ := h
  refine ⟨ps, h1, h2, h3.below hb, h4, fun i q hq => ?_⟩
  obtain ⟨p, k1, k2, k3⟩ := h5 i q hq
  exact ⟨p, k1, k2, k3.below hb⟩
theorem RowN.drew {w : World} {g n : Nat} {qs : List Rat} (h : RowN w g n qs) : RowN w.drew g n qs := h
theorem RowN.lt {w : World} {g n : Nat} {qs : List Rat} (h : RowN w g n qs) : g < w.heap.size := by
  obtain ⟨ps, _, _, h3, _⟩ := h
  exact h3.lt
theorem RowN.le {w : World} {g n : Nat} {qs : List Rat} (h : RowN w g n qs) : qs.length ≤ n := by
  obtain ⟨ps, _, h2, _⟩ := h
  exact h2
theorem flat3_mem {ps : List Elt} {c : Value} (h : c ∈ flat3 ps) : ∃ p ∈ ps, c ∈ cells3 p := List.mem_flatMap.1 h
theorem no_ints_flat {k : IntKind} {ps : List Elt} (h4 : ∀ p ∈ ps, (∃ A m c, p.2.1 = .slice A m c) ∧ ∃ A m c, p.2.2 = .slice A m c) : ∀ c ∈ (flat3 ps).toArray, ∀ n, c ≠ .int k n := by
  intro c hc n
  obtain ⟨p, hp, hc⟩ := flat3_mem (List.mem_toArray.1 hc)
  obtain ⟨⟨A, m, d, e1⟩, ⟨A', m', d', e2⟩⟩ := h4 p hp
  simp only [cells3, e1, e2, List.mem_cons, List.not_mem_nil, or_false] at hc
  rcases hc with rfl | rfl | rfl <;> simp
/-- A list of limbs is kept where the row is written. -/
theorem RowN.keep {w w' : World} {g n : Nat} {qs : List Rat} {k : IntKind} {v : Value} {l : List Nat} (h : RowN w g n qs) (hg : w.grownBy w' (some g)) (hs : IsS w k v l) : IsS w' k v l := by
  obtain ⟨ps, _, _, h3, h4, _⟩ := h
  exact Go.Proofs.YtpcdkepkipadaaaGreat.flow.off hs h3 (no_ints_flat h4) hg
/-- One of them. -/
theorem RowN.at_ {w : World} {g n i : Nat} {qs : List Rat} {q : Rat} (h : RowN w g n qs) (hq : qs[i]? = some q) : ∃ u t, i < n ∧ w.cell? ⟨g, 0 + i * 3, none⟩ = some (.bool (ngB q.num)) ∧ w.cell? ⟨g, 0 + i * 3 + 1, none⟩ = some u ∧ w.cell? ⟨g, 0 + i * 3 + 2, none⟩ = some t ∧ IsS w .u64 u (digs 4294967296 q.num.natAbs) ∧ IsS w .u64 t (digs 4294967296 q.den) := by
  obtain ⟨ps, h1, h2, h3, h4, h5⟩ := h
  obtain ⟨p, k1, rfl, k3⟩ := h5 i q hq
  obtain ⟨f0, f1, f2⟩ := flat3_at ps i p k1
  have hi := (List.getElem?_eq_some_iff.1 k1).1
  rw [Nat.zero_add]
  refine ⟨p.2.1, p.2.2, by omega, ?_, ?_, ?_, k3.1, k3.2⟩
  · rw [h3.cell, List.getElem?_toArray]; exact f0
  · rw [h3.cell, List.getElem?_toArray]; exact f1
  · rw [h3.cell, List.getElem?_toArray]; exact f2
/-- A full row is a slice of these fractions. -/
theorem RowN.sl {w : World} {g n : Nat} {qs : List Rat} (h : RowN w g n qs) (hn : qs.length = n) (hm : n ≤ 1000000000) : SlF .u64 4294967296 w (.slice (some ⟨g, 0, none⟩) n n) qs := by
  obtain ⟨ps, h1, h2, h3, h4, h5⟩ := h
  have key : ∀ (i : Nat) (p : Elt), ps[i]? = some p → qs[i]? = some p.1 ∧ IsE .u64 4294967296 w p := by
    intro i p hp
    have hi := (List.getElem?_eq_some_iff.1 hp).1
    have hq : qs[i]? = some (qs[i]'(by omega)) := List.getElem?_eq_getElem (by omega)
    obtain ⟨p', k1, k2, k3⟩ := h5 i _ hq
    rw [hp] at k1
    injection k1 with k1
    subst k1
    exact ⟨by rw [hq, k2], k3⟩
  refine ⟨ps, ?_, ⟨some ⟨g, 0, none⟩, n, by rw [h1], by omega, by unfold maxLen; omega, fun i p hp => ⟨g, 0, rfl, ?_⟩⟩, fun p hp => ?_⟩
  · refine List.ext_getElem? fun i => ?_
    rw [List.getElem?_map]
    cases hp : ps[i]? with
    | none =>
      have : ps.length ≤ i := List.getElem?_eq_none_iff.1 hp
      rw [List.getElem?_eq_none (by omega)]; rfl
    | some p => rw [(key i p hp).1]; rfl
  · obtain ⟨f0, f1, f2⟩ := flat3_at ps i p hp
    rw [Nat.zero_add]
    refine ⟨?_, ?_, ?_⟩
    · rw [h3.cell, List.getElem?_toArray]; exact f0
    · rw [h3.cell, List.getElem?_toArray]; exact f1
    · rw [h3.cell, List.getElem?_toArray]; exact f2
  · obtain ⟨i, hi⟩ := List.mem_iff_getElem?.1 hp
    exact (key i p hi).2
/-- A row that 'make' made. -/
theorem rowN_made {w : World} {g n : Nat} (h : Blk w g 36 (flat3 (List.replicate n ((0, .slice none 0 0, .slice none 0 0) : Elt))).toArray) : RowN w g n [] :=
  ⟨_, List.length_replicate, Nat.zero_le _, h, fun p hp => by obtain rfl := (List.mem_replicate.1 hp).2; exact ⟨⟨_, _, _, rfl⟩, ⟨_, _, _, rfl⟩⟩, fun i q hq => by simp at hq⟩
theorem made3 (n : Nat) : (madeCells #[.bool false, .slice none 0 0, .slice none 0 0] (n * 3)).toList = flat3 (List.replicate n ((0, .slice none 0 0, .slice none 0 0) : Elt)) := by
  have key : ∀ n j : Nat, (flat3 (List.replicate n ((0, .slice none 0 0, .slice none 0 0) : Elt)))[j]? = if j < n * 3 then some ((#[.bool false, .slice none 0 0, .slice none 0 0] : Array Value)[j % 3]?.getD undef) else none := by
    intro n
    induction n with
    | zero => intro j; simp [flat3]
    | succ n ih =>
      intro j
      rw [List.replicate_succ, flat3_cons]
      match j with
      | 0 => simp [cells3, ngB]
      | 1 => simp [cells3]; omega
      | 2 => simp [cells3]; omega
      | j + 3 =>
        have e : (cells3 ((0, .slice none 0 0, .slice none 0 0) : Elt) ++ flat3 (List.replicate n ((0, .slice none 0 0, .slice none 0 0) : Elt)))[j + 3]? = (flat3 (List.replicate n ((0, .slice none 0 0, .slice none 0 0) : Elt)))[j]? := by simp [cells3]
        rw [e, ih j]
        have h1 : (j + 3) % 3 = j % 3 := by omega
        rw [h1]
        by_cases h : j < n * 3
        · rw [if_pos h, if_pos (by omega)]
        · rw [if_neg h, if_neg (by omega)]
  apply List.ext_getElem?
  intro j
  rw [key n j]
  have h3 : j % 3 < 3 := Nat.mod_lt _ (by omega)
  by_cases h : j < n * 3
  · rw [if_pos h]
    rcases (by omega : j % 3 = 0 ∨ j % 3 = 1 ∨ j % 3 = 2) with e | e | e <;> simp [madeCells, h, e]
  · rw [if_neg h]
    simp [madeCells, h]
section
variable {P : Program}
theorem run_make_q {w : World} {t : TypeId} (ht : P.underlying t = some (.slice 36)) (hI : ∃ i, P.info? 36 = some i ∧ i.zero = some (.agg #[.bool false, .slice none 0 0, .slice none 0 0]) ∧ i.size = 3 ∧ i.bytes = 56) (n : Nat) (hn : n ≤ 1000000000) :
    ∃ w', (Instr.makeSlice t (.int .i64 (n : Int)) (.int .i64 (n : Int))).run P w = .ok (.slice (some ⟨w.heap.size, 0, none⟩) n n) w' ∧ RowN w' w.heap.size n [] ∧ Below w.heap.size w w' := by
  obtain ⟨i, hi, hz, hs, hb⟩ := hI
  obtain ⟨w', h1, h2, h3⟩ := run_make_full (P := P) w w.heap.size t 36 i _ 3 ht hi hz hs .i64 .i64 n (by rw [hb]; omega) (by unfold maxLen; omega) (Nat.le_refl _)
  refine ⟨w', h1, rowN_made ?_, (Below.refl _ w).grown h3 (Nat.le_refl _) (fun g hg => by cases hg)⟩
  obtain ⟨hl, h2⟩ := h2
  rcases h2 with ⟨h4, _⟩ | ⟨g, cap, cur, h4, _, h5, _, _, h6, h7⟩
  · cases h4
  · injection h4 with h4 _ h8
    injection h4 with h4
    injection h4 with h4 _ _
    subst h4; subst h8
    rw [List.take_of_length_le (by simp [h6])] at h7
    have e : cur = (flat3 (List.replicate n ((0, .slice none 0 0, .slice none 0 0) : Elt))).toArray := by
      rw [← made3]
      rw [show (Value.agg #[.bool false, .slice none 0 0, .slice none 0 0]).cells = #[.bool false, .slice none 0 0, .slice none 0 0] from rfl] at h7
      rw [← h7]
    rw [← e]
    exact h5
theorem wpList_make_q {w : World} {ops : Array Oper} {rest : List Oper} {o : Oper} {a : Act} {Q : Exit → Act → World → Prop} (hgd : o.guard = none) (lo co : Operand) {t : TypeId} (ho : o.op = Op.makeSlice t lo co)
    (ht : P.underlying t = some (.slice 36)) (hI : ∃ i, P.info? 36 = some i ∧ i.zero = some (.agg #[.bool false, .slice none 0 0, .slice none 0 0]) ∧ i.size = 3 ∧ i.bytes = 56) (n : Nat) (hl : a.eval lo = .int .i64 (n : Int)) (hc : a.eval co = .int .i64 (n : Int)) (hn : n ≤ 1000000000)
    (h : ∀ w', RowN w' w.heap.size n [] → Below w.heap.size w w' → wpList P ops Q rest (a.put o.dst (.slice (some ⟨w.heap.size, 0, none⟩) n n)) w') : wpList P ops Q (o :: rest) a w := by
  obtain ⟨w', h1, h2, h3⟩ := run_make_q (P := P) (w := w) ht hI n hn
  refine wpList_plain hgd fun K hK => ?_
  unfold Oper.wp execOp
  simp only [ho, hl, hc, Sem.run_bind, h1, Result.andThen_ok]
  exact hK _ _ (h w' h2 h3)
/-- The row is written at one place. -/
theorem RowN.put {w w' : World} {g n i : Nat} {qs : List Rat} {q : Rat} {u t : Value} (h : RowN w g n qs) (hi : i < n) (hu : IsS w .u64 u (digs 4294967296 q.num.natAbs)) (ht : IsS w .u64 t (digs 4294967296 q.den)) (hg : w.grownBy w' (some g)) (hc : ∀ cs, Blk w g 36 cs → Blk w' g 36 (cs.toList.take (0 + i * 3) ++ [.bool (ngB q.num), u, t] ++ cs.toList.drop (0 + i * 3 + 3)).toArray) : (i = qs.length → RowN w' g n (qs ++ [q])) ∧ (i < qs.length → RowN w' g n (qs.set i q)) := by
  have keep := fun {k v l} => h.keep (k := k) (v := v) (l := l) hg
  obtain ⟨ps, h1, h2, h3, h4, h5⟩ := h
  have hB : Blk w' g 36 (flat3 (ps.set i (q, u, t))).toArray := by
    have h6 := hc _ h3
    rw [Nat.zero_add, List.toList_toArray] at h6
    rw [← flat3_set ps i (q, u, t) (by omega)]
    exact h6
  have hS : ∀ p ∈ ps.set i (q, u, t), (∃ A m c, p.2.1 = .slice A m c) ∧ ∃ A m c, p.2.2 = .slice A m c := by
    intro p hp
    rcases List.mem_or_eq_of_mem_set hp with hp | rfl
    · exact h4 p hp
    · obtain ⟨A, c, e1, _⟩ := hu
      obtain ⟨D, d, e2, _⟩ := ht
      exact ⟨⟨_, _, _, e1⟩, ⟨_, _, _, e2⟩⟩
  have hE : IsE .u64 4294967296 w' ((q, u, t) : Elt) := ⟨keep hu, keep ht⟩
  have old : ∀ (j : Nat) (x : Rat), j ≠ i → qs[j]? = some x → ∃ p, (ps.set i (q, u, t))[j]? = some p ∧ p.1 = x ∧ IsE .u64 4294967296 w' p := by
    intro j x hj hx
    obtain ⟨p, k1, k2, k3⟩ := h5 j x hx
    exact ⟨p, by rw [List.getElem?_set_ne (fun e => hj e.symm)]; exact k1, k2, keep k3.1, keep k3.2⟩
  have new : (ps.set i (q, u, t))[i]? = some ((q, u, t) : Elt) := by rw [List.getElem?_set_self (by omega)]
  constructor
  · intro hiq
    refine ⟨ps.set i (q, u, t), by rw [List.length_set]; exact h1, by simp; omega, hB, hS, fun j x hx => ?_⟩
    by_cases hj : j = i
    · subst hj
      rw [hiq, List.getElem?_concat_length] at hx
      injection hx with hx
      subst hx
      exact ⟨_, new, rfl, hE⟩
    · refine old j x hj ?_
      have hl := (List.getElem?_eq_some_iff.1 hx).1
      rw [List.length_append, List.length_singleton] at hl
      rwa [List.getElem?_append_left (by omega)] at hx
  · intro hiq
    refine ⟨ps.set i (q, u, t), by rw [List.length_set]; exact h1, by simp; omega, hB, hS, fun j x hx => ?_⟩
    by_cases hj : j = i
    · subst hj
      rw [List.getElem?_set_self hiq] at hx
      injection hx with hx
      subst hx
      exact ⟨_, new, rfl, hE⟩
    · rw [List.getElem?_set_ne (fun e => hj e.symm)] at hx
      exact old j x hj hx
theorem grownBy_setRow (w : World) (g : Nat) (cs : Array Value) : w.grownBy (w.setRow g cs) (some g) := ⟨rfl, rfl, rfl, by simp [World.setRow], fun k _ hk => setRow_other w g k cs (fun e => hk (by rw [e]))⟩
theorem wp_store_q {o : Oper} {a : Act} {w : World} {K : Act → World → Prop} {Q : Exit → Act → World → Prop} {ty : TypeId} {x y : Operand} {g n i : Nat} {qs : List Rat} {q : Rat} {u t : Value} (hd : o.dst = none) (hop : o.op = .store ty x y) (hx : a.eval x = .pointer (some ⟨g, 0 + i * 3, none⟩)) (hy : a.eval y = .agg #[.bool (ngB q.num), u, t])
    (hI : (P.info? ty).map (·.size) = some 3) (hR : RowN w g n qs) (hi : i < n) (hu : IsS w .u64 u (digs 4294967296 q.num.natAbs)) (ht : IsS w .u64 t (digs 4294967296 q.den))
    (h : ∀ w', w.grownBy w' (some g) → (i = qs.length → RowN w' g n (qs ++ [q])) ∧ (i < qs.length → RowN w' g n (qs.set i q)) → K a w') : o.wp P a w K Q := by
  obtain ⟨ps, h1, h2, h3, h4, h5⟩ := id hR
  have one : ∀ v ∈ [Value.bool (ngB q.num), u, t], v.oneCell' = true := by
    obtain ⟨A, c, rfl, _⟩ := id hu
    obtain ⟨D, d, rfl, _⟩ := id ht
    exact one3 rfl rfl rfl
  have hrun := run_storeCells_at (P := P) g (0 + i * 3) 36 [Value.bool (ngB q.num), u, t] 0 (flat3 ps).toArray w h3 (by simp [flat3_len]; omega) one
  rw [Nat.add_zero] at hrun
  have key : ∀ (A : Addr) (W : World), (storeCells A [Value.bool (ngB q.num), u, t] 0).run P w = .ok () W → (storeVar ty A (.agg #[.bool (ngB q.num), u, t])).run P w = .ok () W := by
    intro A W hrun
    cases hq : P.info? ty with
    | none => simp [hq] at hI
    | some inf =>
      have hsz : 3 = inf.size := by simp [hq] at hI; omega
      have e : (Value.agg #[.bool (ngB q.num), u, t]).cells = ([Value.bool (ngB q.num), u, t] : List Value).toArray := rfl
      simp [storeVar, sizeOf, typeInfo, hq, e, ← hsz, hrun]
  have hst := key _ _ hrun
  unfold Oper.wp execOp
  simp only [hop, hx, hy, Instr.storeAt, Instr.sureAddr, Sem.run_bind, Sem.run_pure, Result.andThen_ok, hst, Oper.upon_skip, hd]
  refine h _ (grownBy_setRow _ _ _) (hR.put hi hu ht (grownBy_setRow _ _ _) fun cs hcs => ?_)
  unfold Blk at hcs h3 ⊢
  rw [h3] at hcs
  injection hcs with hcs
  injection hcs with hcs
  subst hcs
  exact setRow_heap w g _ _ _ _ h3
theorem ops_store_q {Q : Exit → Act → World → Prop} {ops : Array Oper} {o : Oper} {j : Nat} {rest : List Nat} {a : Act} {w : World} {ty : TypeId} {x y : Operand} {g n i : Nat} {qs : List Rat} {q : Rat} {u t : Value} (ho : ops[j]? = some o) (hgd : o.guard = none) (hd : o.dst = none) (hop : o.op = .store ty x y) (hx : a.eval x = .pointer (some ⟨g, 0 + i * 3, none⟩)) (hy : a.eval y = .agg #[.bool (ngB q.num), u, t])
    (hI : (P.info? ty).map (·.size) = some 3) (hR : RowN w g n qs) (hi : i < n) (hu : IsS w .u64 u (digs 4294967296 q.num.natAbs)) (ht : IsS w .u64 t (digs 4294967296 q.den))
    (h : ∀ w', w.grownBy w' (some g) → (i = qs.length → RowN w' g n (qs ++ [q])) ∧ (i < qs.length → RowN w' g n (qs.set i q)) → wpOps P ops Q rest a w') : wpOps P ops Q (j :: rest) a w :=
  ops_one ho hgd (wp_store_q hd hop hx hy hI hR hi hu ht h)
end
/-! Calls through a function's value. -/
section
variable {P : Program} {Q : Exit → Act → World → Prop} {ops : Array Oper} {L : List Oper} {Φ : List Pd} {w0 : World} {a0 : Act} {i : Nat} {o : Oper}
theorem ev_func (f : FuncId) : Ev L Φ w0 a0 o (.func f) (fun _ u => u = .func (.func f) #[] #[]) := fun _ _ _ => rfl
theorem exec_callv {ρ : Operand → Value} {f : FuncId} {z : Operand} {xs : Array Operand} {at_ : Array TypeId} {w : World} (hop : o.op = .call { callee := .value z, args := xs, argTypes := at_ }) (hρ : ρ z = .func (.func f) #[] #[]) {args : Array Value} (ha : xs.map ρ = args) : (execOp ρ o).run P w = (callFunc f args).run P w := by
  subst ha
  unfold execOp
  simp [hop, resolve, hρ, Deferred.ofValue, invoke]
theorem ob_callv2 {f : FuncId} {fn : Func} {z x y : Operand} {at_ : Array TypeId} {F G : World → Value → Prop} (hop : o.op = .call { callee := .value z, args := #[x, y], argTypes := at_ }) (hz : Ev L Φ w0 a0 o z (fun _ u => u = .func (.func f) #[] #[])) (hf : P.funcs[f]? = some fn) (hB : (!(fn.name == "runtime.NumGoroutine") && fn.body.isSome) = true) (hw : Wt ops L Φ w0 a0 o true)
    (hx : Ev L Φ w0 a0 o x F) (hy : Ev L Φ w0 a0 o y G) (hc : ∀ w u v, Below w0.heap.size w0 w → F w u → G w v → Calls P f #[u, v] w (RetPd (ph Φ i) w)) : Ob P Q ops L Φ w0 a0 i o :=
  ob_enter hf hB hw (by unfold isA; rw [hop]) fun ms w hS => ⟨#[(putM a0 L ms).eval x, (putM a0 L ms).eval y], exec_callv hop (hz ms w hS) (by simp), hc w _ _ hS.below (hx ms w hS) (hy ms w hS)⟩
end
/-- A row of these, made by the call, and an error's number. -/
def RetRN (qs : List Rat) (w : World) (e : Ending) (w' : World) : Prop := ∃ g, e = .returned (.tuple #[.slice (some ⟨g, 0, none⟩) qs.length qs.length, .int .i64 0]) ∧ RowN w' g qs.length qs ∧ w.heap.size ≤ g ∧ Below w.heap.size w w'
/-- No row, and an error's number. -/
def RetNN (n : Int) (w : World) (e : Ending) (w' : World) : Prop := e = .returned (.tuple #[.slice none 0 0, .int .i64 n]) ∧ Below w.heap.size w w'
/-- A row of these, made by the call. -/
def prn (n : Nat) (qs : List Rat) (B : Nat) : Pd := ⟨fun w t => ∃ g, t = .tuple #[.slice (some ⟨g, 0, none⟩) n n, .int .i64 0] ∧ RowN w g n qs ∧ B ≤ g, fun h hb => by obtain ⟨g, e, h1, h2⟩ := h; exact ⟨g, e, h1.below hb, h2⟩⟩
def pro (n : Nat) (qs : List Rat) (B : Nat) : Pd := ⟨fun w v => ∃ g, v = .slice (some ⟨g, 0, none⟩) n n ∧ RowN w g n qs ∧ B ≤ g, fun h hb => by obtain ⟨g, e, h1, h2⟩ := h; exact ⟨g, e, h1.below hb, h2⟩⟩
theorem RetRN.pd {n : Nat} {qs : List Rat} {w : World} {e : Ending} {w' : World} {B : Nat} (h : RetRN qs w e w') (hn : qs.length = n) (hB : B ≤ w.heap.size) : RetPd (prn n qs B) w e w' := by
  obtain ⟨g, h1, h2, h3, h4⟩ := h
  rw [hn] at h1 h2
  exact ⟨_, h1, ⟨g, rfl, h2, Nat.le_trans hB h3⟩, h4⟩
theorem RetNN.pd {n : Int} {w : World} {e : Ending} {w' : World} (h : RetNN n w e w') : RetPd (Pd.eq (.tuple #[.slice none 0 0, .int .i64 n])) w e w' := ⟨_, h.1, rfl, h.2⟩
section
variable {P : Program} {Q : Exit → Act → World → Prop} {ops : Array Oper} {L : List Oper} {Φ : List Pd} {w0 : World} {a0 : Act} {i : Nat} {o : Oper}
theorem ob_make_q {t : TypeId} {x y : Operand} (n : Nat) (hop : o.op = .makeSlice t x y) (hg : o.guard = none) (hx : Ev L Φ w0 a0 o x (fun _ u => u = .int .i64 (n : Int))) (hy : Ev L Φ w0 a0 o y (fun _ u => u = .int .i64 (n : Int))) (ht : P.underlying t = some (.slice 36)) (hI : ∃ i, P.info? 36 = some i ∧ i.zero = some (.agg #[.bool false, .slice none 0 0, .slice none 0 0]) ∧ i.size = 3 ∧ i.bytes = 56) (hn : n ≤ 1000000000)
    (hP : ∀ w v, (pro n [] w0.heap.size).p w v → (ph Φ i).p w v) : Ob P Q ops L Φ w0 a0 i o := by
  intro ms w hS
  rw [if_pos (wt_none (ops := ops) (L := L) (Φ := Φ) (w0 := w0) (a0 := a0) hg ms w hS)]
  obtain ⟨w', h1, h2, h3⟩ := run_make_q (P := P) (w := w) ht hI n hn
  have hr : (execOp (putM a0 L ms).eval o).run P w = .ok (.value (.slice (some ⟨w.heap.size, 0, none⟩) n n)) w' := by
    unfold execOp
    simp only [hop, hx ms w hS, hy ms w hS, Sem.run_bind, h1, Result.andThen_ok]
    rfl
  unfold Oper.wp
  rw [hr]
  exact ⟨_, rfl, h3, hP _ _ ⟨_, rfl, h2, hS.below.size⟩, fun h => by unfold isA at h; rw [hop] at h; cases h⟩
end
/-- The variable's fraction is laid into the row: the variable stays as it is, even if it should be that row. -/
theorem HoldQ.row {w w' : World} {g G n : Nat} {ls : List Rat} {s : Rat} (h : HoldQ w G s) (hR : RowN w g n ls) (hg : w.grownBy w' (some g)) (hR' : RowN w' g n (ls ++ [s])) : HoldQ w' G s := by
  obtain ⟨u, t, h1, h2, h3⟩ := h
  by_cases e : g = G
  · subst e
    obtain ⟨ps, k1, k2, k3, k4, k5⟩ := id hR
    have e1 : ps.length = 1 := by
      unfold Blk at k3 h1
      rw [k3] at h1
      injection h1 with h1
      injection h1 with h1
      have := congrArg Array.size h1
      rw [List.size_toArray, flat3_len] at this
      simp at this
      omega
    obtain ⟨rs, r1, r2, r3, r4, r5⟩ := hR'
    have e2 : ls = [] := by
      rw [List.length_append, List.length_singleton] at r2
      exact List.length_eq_zero_iff.1 (by omega)
    subst e2
    obtain ⟨p, q1, q2, q3⟩ := r5 0 s rfl
    obtain ⟨r, rfl⟩ : ∃ r, rs = [r] := List.length_eq_one_iff.1 (by omega)
    obtain rfl : r = p := by simpa using q1
    subst q2
    exact ⟨r.2.1, r.2.2, r3, q3.1, q3.2⟩
  · exact ⟨u, t, h1.grown hg (fun e' => e e'.symm), hR.keep hg h2, hR.keep hg h3⟩
theorem addr_zero (g i : Nat) : (⟨g, 0, none⟩ : Addr).add i = ⟨g, i, none⟩ := by
  unfold Addr.add
  by_cases h : i = 0
  · simp [h]
  · simp [h]
/-- Block g is a table of slices, at its full length. -/
def TabB (w : World) (g : Nat) (TS : TypeId) (us : List Value) : Prop := Blk w g TS us.toArray ∧ ∀ u ∈ us, ∃ A n c, u = .slice A n c
theorem TabB.below {w w' : World} {g : Nat} {TS : TypeId} {us : List Value} (h : TabB w g TS us) (hb : Below w.heap.size w w') : TabB w' g TS us := ⟨h.1.below hb, h.2⟩
theorem TabB.lt {w : World} {g : Nat} {TS : TypeId} {us : List Value} (h : TabB w g TS us) : g < w.heap.size := h.1.lt
theorem TabB.drew {w : World} {g : Nat} {TS : TypeId} {us : List Value} (h : TabB w g TS us) : TabB w.drew g TS us := h
theorem TabB.cell {w : World} {g : Nat} {TS : TypeId} {us : List Value} (h : TabB w g TS us) {i : Nat} {u : Value} (hu : us[i]? = some u) : w.cell? ((⟨g, 0, none⟩ : Addr).add i) = some u := by
  rw [addr_zero, h.1.cell, List.getElem?_toArray]; exact hu
theorem TabB.keep {w w' : World} {g : Nat} {TS : TypeId} {us : List Value} {k : IntKind} {v : Value} {l : List Nat} (h : TabB w g TS us) (hg : w.grownBy w' (some g)) (hs : IsS w k v l) : IsS w' k v l :=
  Go.Proofs.YtpcdkepkipadaaaGreat.flow.off hs h.1 (fun c hc n e => by
    obtain ⟨A, m, d, e1⟩ := h.2 c (List.mem_toArray.1 hc)
    rw [e1] at e
    cases e) hg
theorem TabB.keepF {w w' : World} {g : Nat} {TS : TypeId} {us : List Value} {k : IntKind} {B : Nat} {v : Value} {r : List Rat} (h : TabB w g TS us) (hg : w.grownBy w' (some g)) (hs : SlF k B w v r) : SlF k B w' v r := by
  obtain ⟨ps, h1, ⟨A, c, e, h2, h3, h4⟩, h5⟩ := hs
  refine ⟨ps, h1, ⟨A, c, e, h2, h3, fun i p hp => ?_⟩, fun p hp => ⟨h.keep hg (h5 p hp).1, h.keep hg (h5 p hp).2⟩⟩
  obtain ⟨g', o, e2, c0, c1, c2⟩ := h4 i p hp
  have hne : some g' ≠ some g := by
    intro e3
    injection e3 with e3
    subst e3
    rw [h.1.cell, List.getElem?_toArray] at c0
    obtain ⟨A', m, d, e4⟩ := h.2 _ (List.mem_of_getElem? c0)
    cases e4
  exact ⟨g', o, e2, hg.cell c0 hne, hg.cell c1 hne, hg.cell c2 hne⟩
theorem TabB.put {w w' : World} {g i : Nat} {TS : TypeId} {us : List Value} {u : Value} (h : TabB w g TS us) (hB : w'.heap[g]? = some (.cells (us.toArray.setIfInBounds i u) TS (0, 0))) (hu : ∃ A n c, u = .slice A n c) : TabB w' g TS (us.set i u) := by
  refine ⟨by unfold Blk; rw [hB]; simp, fun v hv => ?_⟩
  rcases List.mem_or_eq_of_mem_set hv with hv | rfl
  · exact h.2 v hv
  · exact hu
theorem TabB.grown {w w' : World} {g : Nat} {TS : TypeId} {us : List Value} {row : Option Nat} (h : TabB w g TS us) (hg : w.grownBy w' row) (hne : row ≠ some g) : TabB w' g TS us :=
  ⟨(hg.block g h.1.lt (fun e => hne e.symm)).trans h.1, h.2⟩
/-- A table whose rows read as these. -/
def TabS (k : IntKind) (B : Nat) (w : World) (g : Nat) (TS : TypeId) (us : List Value) (t : List (List Rat)) : Prop := TabB w g TS us ∧ us.length = t.length ∧ ∀ (i : Nat) (u : Value) (r : List Rat), us[i]? = some u → t[i]? = some r → SlF k B w u r
theorem TabS.below {k : IntKind} {B : Nat} {w w' : World} {g : Nat} {TS : TypeId} {us : List Value} {t : List (List Rat)} (h : TabS k B w g TS us t) (hb : Below w.heap.size w w') : TabS k B w' g TS us t := ⟨h.1.below hb, h.2.1, fun i u r hu hr => (h.2.2 i u r hu hr).below hb⟩
theorem TabS.drew {k : IntKind} {B : Nat} {w : World} {g : Nat} {TS : TypeId} {us : List Value} {t : List (List Rat)} (h : TabS k B w g TS us t) : TabS k B w.drew g TS us t := h.below (Below.refl _ w).drew
theorem TabS.lt {k : IntKind} {B : Nat} {w : World} {g : Nat} {TS : TypeId} {us : List Value} {t : List (List Rat)} (h : TabS k B w g TS us t) : g < w.heap.size := h.1.lt
theorem TabS.put {k : IntKind} {B : Nat} {w w' : World} {g i : Nat} {TS : TypeId} {us : List Value} {t : List (List Rat)} {u : Value} {r : List Rat} (h : TabS k B w g TS us t) (hg : w.grownBy w' (some g)) (hB : w'.heap[g]? = some (.cells (us.toArray.setIfInBounds i u) TS (0, 0))) (hu : SlF k B w u r) : TabS k B w' g TS (us.set i u) (t.set i r) := by
  obtain ⟨A, c, eu, _⟩ := hu.shape
  refine ⟨h.1.put hB ⟨_, _, _, eu⟩, by rw [List.length_set, List.length_set]; exact h.2.1, fun j x y hx hy => ?_⟩
  by_cases hj : i = j
  · subst hj
    have hi : i < us.length := by have := (List.getElem?_eq_some_iff.1 hx).1; rwa [List.length_set] at this
    rw [List.getElem?_set_self hi] at hx
    rw [List.getElem?_set_self (by rw [← h.2.1]; exact hi)] at hy
    injection hx with hx
    injection hy with hy
    subst hx; subst hy
    exact h.1.keepF hg hu
  · rw [List.getElem?_set_ne hj] at hx hy
    exact h.1.keepF hg (h.2.2 j x y hx hy)
theorem TabS.slT {k : IntKind} {B : Nat} {w : World} {g n : Nat} {TS : TypeId} {us : List Value} {t : List (List Rat)} (h : TabS k B w g TS us t) (hn : t.length = n) (hm : n ≤ 1000000000) : SlT k B w (.slice (some ⟨g, 0, none⟩) n n) t :=
  ⟨us, h.2.1, ⟨some ⟨g, 0, none⟩, n, by rw [h.2.1, hn], by rw [h.2.1, hn]; exact Nat.le_refl _, by unfold maxLen; omega, fun i u hu => ⟨_, rfl, h.1.cell hu⟩⟩, h.2.2⟩
theorem TabB.bare {k : IntKind} {B : Nat} {w : World} {g n : Nat} {TS : TypeId} (h : TabB w g TS (List.replicate n (.slice none 0 0))) : TabS k B w g TS (List.replicate n (.slice none 0 0)) (List.replicate n []) :=
  ⟨h, by simp, fun i u r hu hr => by
    have h1 := (List.mem_replicate.1 (List.mem_of_getElem? hu)).2
    have h2 := (List.mem_replicate.1 (List.mem_of_getElem? hr)).2
    subst h1; subst h2
    exact slF_nil _ _ _⟩
/-- The first rows of a table, and behind them rows that have no places yet. -/
def partq {α : Type} (T : List (List α)) (k n : Nat) : List (List α) := T.take k ++ List.replicate (n - k) []
theorem partq_zero {α : Type} (T : List (List α)) (n : Nat) : partq T 0 n = List.replicate n [] := by simp [partq]
theorem partq_full {α : Type} {T : List (List α)} {n : Nat} (h : T.length = n) : partq T n n = T := by simp [partq, ← h]
theorem partq_set {α : Type} {T : List (List α)} {k n : Nat} {r : List α} (h : T.length = n) (hr : T[k]? = some r) : (partq T k n).set k r = partq T (k + 1) n := by
  have hk : k < T.length := (List.getElem?_eq_some_iff.1 hr).1
  unfold partq
  have hl : (T.take k).length = k := by rw [List.length_take]; omega
  rw [List.set_append_right _ _ (by omega), hl, Nat.sub_self, show n - k = (n - (k + 1)) + 1 from by omega, List.replicate_succ, List.set_cons_zero, List.take_add_one, hr]
  simp
section
variable {P : Program}
theorem run_make_v {w : World} {t TS : TypeId} (ht : P.underlying t = some (.slice TS)) (hI : ∃ i, P.info? TS = some i ∧ i.zero = some (.slice none 0 0) ∧ i.size = 1 ∧ i.bytes = 24) (n : Nat) (hn : n ≤ 1000000000) :
    ∃ w', (Instr.makeSlice t (.int .i64 (n : Int)) (.int .i64 (n : Int))).run P w = .ok (.slice (some ⟨w.heap.size, 0, none⟩) n n) w' ∧ TabB w' w.heap.size TS (List.replicate n (.slice none 0 0)) ∧ Below w.heap.size w w' := by
  obtain ⟨i, hi, hz, hs, hb⟩ := hI
  obtain ⟨w', h1, h2, h3⟩ := run_make_full (P := P) w w.heap.size t TS i _ 1 ht hi hz hs .i64 .i64 n (by rw [hb]; omega) (by unfold maxLen; omega) (Nat.le_refl _)
  refine ⟨w', h1, ⟨?_, fun u hu => ⟨_, _, _, (List.mem_replicate.1 hu).2⟩⟩, (Below.refl _ w).grown h3 (Nat.le_refl _) (fun g hg => by cases hg)⟩
  obtain ⟨hl, h2⟩ := h2
  rcases h2 with ⟨h4, _⟩ | ⟨g, cap, cur, h4, _, h5, _, _, h6, h7⟩
  · cases h4
  · injection h4 with h4 _ h8
    injection h4 with h4
    injection h4 with h4 _ _
    subst h4; subst h8
    rw [List.take_of_length_le (by simp [h6])] at h7
    have e : cur = (List.replicate n (Value.slice none 0 0)).toArray := by
      have e1 : (madeCells (Value.slice none 0 0).cells (n * 1)).toList = List.replicate n (.slice none 0 0) := by rw [Nat.mul_one]; exact toList_madeCells_one _ _
      rw [← e1, ← h7]
    rw [← e]
    exact h5
end
end Go.Proofs.YtpcdkepkipadaaaGreat.rat
namespace Go.Proofs.YtpcdkepkipadaaaGreat.flow
open Go.RowKit Go.Proofs.YtpcdkepkipadaaaGreat.num Go.Proofs.YtpcdkepkipadaaaGreat.mem Go.Proofs.YtpcdkepkipadaaaGreat.whl Go.Proofs.YtpcdkepkipadaaaGreat.rat
set_option linter.unusedVariables false
/-- A table of rows that have no places yet, made by the call. -/
def pbar (n : Nat) (TS : TypeId) (B : Nat) : Pd := ⟨fun w v => ∃ g, v = .slice (some ⟨g, 0, none⟩) n n ∧ TabB w g TS (List.replicate n (.slice none 0 0)) ∧ B ≤ g, fun h hb => by obtain ⟨g, e, h1, h2⟩ := h; exact ⟨g, e, h1.below hb, h2⟩⟩
section
variable {P : Program} {Q : Exit → Act → World → Prop} {ops : Array Oper} {L : List Oper} {Φ : List Pd} {w0 : World} {a0 : Act} {i : Nat} {o : Oper}
theorem ob_make_v {t TS : TypeId} {x y : Operand} (n : Nat) (hop : o.op = .makeSlice t x y) (hg : o.guard = none) (hx : Ev L Φ w0 a0 o x (fun _ u => u = .int .i64 (n : Int))) (hy : Ev L Φ w0 a0 o y (fun _ u => u = .int .i64 (n : Int))) (ht : P.underlying t = some (.slice TS)) (hI : ∃ i, P.info? TS = some i ∧ i.zero = some (.slice none 0 0) ∧ i.size = 1 ∧ i.bytes = 24) (hn : n ≤ 1000000000)
    (hP : ∀ w v, (pbar n TS w0.heap.size).p w v → (ph Φ i).p w v) : Ob P Q ops L Φ w0 a0 i o := by
  intro ms w hS
  rw [if_pos (wt_none (ops := ops) (L := L) (Φ := Φ) (w0 := w0) (a0 := a0) hg ms w hS)]
  obtain ⟨w', h1, h2, h3⟩ := run_make_v (P := P) (w := w) ht hI n hn
  have hr : (execOp (putM a0 L ms).eval o).run P w = .ok (.value (.slice (some ⟨w.heap.size, 0, none⟩) n n)) w' := by
    unfold execOp
    simp only [hop, hx ms w hS, hy ms w hS, Sem.run_bind, h1, Result.andThen_ok]
    rfl
  unfold Oper.wp
  rw [hr]
  exact ⟨_, rfl, h3, hP _ _ ⟨_, rfl, h2, hS.below.size⟩, fun h => by unfold isA at h; rw [hop] at h; cases h⟩
end
end Go.Proofs.YtpcdkepkipadaaaGreat.flow
namespace Go.Proofs.YtpcdkepkipadaaaGreat.rat
open Go.RowKit Go.Proofs.YtpcdkepkipadaaaGreat.num Go.Proofs.YtpcdkepkipadaaaGreat.mem Go.Proofs.YtpcdkepkipadaaaGreat.nat Go.Proofs.YtpcdkepkipadaaaGreat.txt Go.Proofs.YtpcdkepkipadaaaGreat.str Go.Proofs.YtpcdkepkipadaaaGreat.flow Go.Proofs.YtpcdkepkipadaaaGreat.whl
set_option linter.unusedVariables false
/-- A table whose rows the call owns, each in a block of its own; their elements' limbs lie elsewhere than all rows, and than the table. -/
structure TabO (k : IntKind) (B : Nat) (T : TypeId) (w : World) (base : Nat) (TS : TypeId) (V : Value) (us : List Value) (pss : List (List Elt)) : Prop where
  row : RowV w base TS V us
  len : us.length = pss.length
  own : ∀ (i : Nat) (u : Value) (ps : List Elt), us[i]? = some u → pss[i]? = some ps → RowF T w base u ps
  far : ∀ u ∈ us, ∀ ps ∈ pss, FarF k B w u ps
  farV : ∀ ps ∈ pss, FarF k B w V ps
  apart : ∀ (i j : Nat) (u v : Value), i ≠ j → us[i]? = some u → us[j]? = some v → ∀ h, u.ownBlock = some h → v.ownBlock ≠ some h
theorem TabO.below {k : IntKind} {B : Nat} {T : TypeId} {w w' : World} {base : Nat} {TS : TypeId} {V : Value} {us : List Value} {pss : List (List Elt)} (h : TabO k B T w base TS V us pss) (hb : Below w.heap.size w w') : TabO k B T w' base TS V us pss :=
  ⟨h.row.below hb, h.len, fun i u ps hu hp => (h.own i u ps hu hp).below hb, fun u hu ps hp => (h.far u hu ps hp).below hb, fun ps hp => (h.farV ps hp).below hb, h.apart⟩
theorem TabO.drew {k : IntKind} {B : Nat} {T : TypeId} {w : World} {base : Nat} {TS : TypeId} {V : Value} {us : List Value} {pss : List (List Elt)} (h : TabO k B T w base TS V us pss) : TabO k B T w.drew base TS V us pss := h.below (Below.refl _ w).drew
/-- The rows as fractions. -/
def valq (pss : List (List Elt)) : List (List Rat) := pss.map fun ps => ps.map (·.1)
theorem TabO.slT {k : IntKind} {B : Nat} {T : TypeId} {w : World} {base : Nat} {TS : TypeId} {V : Value} {us : List Value} {pss : List (List Elt)} (h : TabO k B T w base TS V us pss) : SlT k B w V (valq pss) := by
  refine ⟨us, by rw [valq, List.length_map]; exact h.len, ?_, fun i u r hu hr => ?_⟩
  · rcases h.row.2 with ⟨rfl, h0⟩ | ⟨g, cap, cur, rfl, _, hg, hn, hm, _, _⟩
    · obtain rfl : us = [] := List.length_eq_zero_iff.1 h0
      exact ⟨none, 0, rfl, by simp, by unfold maxLen; omega, fun i u hu => by simp at hu⟩
    · exact ⟨_, cap, rfl, hn, hm, fun i u hu => ⟨_, rfl, World.ownsRow.cells h.row (g := g) rfl i u hu⟩⟩
  rw [valq, List.getElem?_map] at hr
  cases hp : pss[i]? with
  | none => rw [hp] at hr; cases hr
  | some ps =>
    rw [hp] at hr
    obtain rfl : ps.map (·.1) = r := by simpa using hr
    exact (h.own i u ps hu hp).sl (h.far u (List.mem_of_getElem? hu) ps (List.mem_of_getElem? hp))
theorem TabB.rowV {w : World} {base g n : Nat} {TS : TypeId} {us : List Value} (h : TabB w g TS us) (hn : us.length = n) (hb : base ≤ g) (hm : n ≤ 1000000000) : RowV w base TS (.slice (some ⟨g, 0, none⟩) n n) us := by
  unfold RowV
  rw [hn]
  exact ⟨by simp [hn], .inr ⟨g, n, us.toArray, rfl, hb, h.1, Nat.le_refl _, by unfold maxLen; omega, by simp [hn], by simp [← hn]⟩⟩
theorem TabB.owned {k : IntKind} {B : Nat} {T : TypeId} {w : World} {base g n : Nat} {TS : TypeId} (h : TabB w g TS (List.replicate n (.slice none 0 0))) (hb : base ≤ g) (hm : n ≤ 1000000000) : TabO k B T w base TS (.slice (some ⟨g, 0, none⟩) n n) (List.replicate n (.slice none 0 0)) (List.replicate n []) := by
  have key : ∀ u ∈ List.replicate n (Value.slice none 0 0), u = .slice none 0 0 := fun u hu => (List.mem_replicate.1 hu).2
  refine ⟨h.rowV (by simp) hb hm, by simp, fun i u ps hu hp => ?_, fun u hu ps hp => ?_, fun ps hp => ?_, fun i j u v _ hu hv q hq => ?_⟩
  · have h1 := key u (List.mem_of_getElem? hu)
    have h2 := (List.mem_replicate.1 (List.mem_of_getElem? hp)).2
    subst h1; subst h2
    exact rowF_nil _ _ _
  · rw [(List.mem_replicate.1 hp).2]
    exact FarF.nil _ _ _ _
  · rw [(List.mem_replicate.1 hp).2]
    exact FarF.nil _ _ _ _
  · rw [key u (List.mem_of_getElem? hu)] at hq
    cases hq
theorem RowF.notRow {T TS : TypeId} {w : World} {base base' : Nat} {v V : Value} {ps : List Elt} {us : List Value} (h : RowF T w base v ps) (hV : RowV w base' TS V us) (hne : T ≠ TS) : ∀ g, v.ownBlock = some g → V.ownBlock ≠ some g := by
  intro g e e2
  rcases h.2 with ⟨rfl, _⟩ | ⟨g', cap, cur, rfl, _, hg, _⟩
  · cases e
  · rcases hV.2 with ⟨rfl, _⟩ | ⟨g2, cap2, cur2, rfl, _, hg2, _⟩
    · cases e2
    · have e1 : g' = g := by simpa [Value.ownBlock] using e
      have e3 : g2 = g := by simpa [Value.ownBlock] using e2
      subst e1; subst e3
      rw [hg] at hg2
      injection hg2 with hg2
      injection hg2 with _ hg2
      exact hne hg2
theorem mem_set_at {α : Type} {l : List α} {i j : Nat} {a x : α} (h : (l.set i a)[j]? = some x) : (i = j ∧ x = a) ∨ (i ≠ j ∧ l[j]? = some x) := by
  by_cases e : i = j
  · subst e
    have hi : i < l.length := by have := (List.getElem?_eq_some_iff.1 h).1; rwa [List.length_set] at this
    rw [List.getElem?_set_self hi] at h
    injection h with h
    exact .inl ⟨rfl, h.symm⟩
  · rw [List.getElem?_set_ne e] at h
    exact .inr ⟨e, h⟩
/-- A row grows: the table stands as it was, but for that row. -/
theorem TabO.put {k : IntKind} {B : Nat} {T : TypeId} {w w1 : World} {base g n c i : Nat} {TS : TypeId} {us : List Value} {pss : List (List Elt)} {u u' : Value} {ps new : List Elt} (hT : T ≠ TS) (h : TabO k B T w base TS (.slice (some ⟨g, 0, none⟩) n c) us pss) (hu : us[i]? = some u) (hps : pss[i]? = some ps) (hrow : RowF T w1 base u' (ps ++ new)) (hgr : Grew w w1 u u') (hnew : FarF k B w1 u' new) (hfar : ∀ v ∈ us, ∀ p ∈ new, Far v p.2.1 ∧ Far v p.2.2) (hfarV : ∀ p ∈ new, Far (.slice (some ⟨g, 0, none⟩) n c) p.2.1 ∧ Far (.slice (some ⟨g, 0, none⟩) n c) p.2.2) :
    TabO k B T (w1.setCell ⟨g, i, none⟩ u') base TS (.slice (some ⟨g, 0, none⟩) n c) (us.set i u') (pss.set i (ps ++ new)) := by
  obtain ⟨k1, k2, k3⟩ := hgr
  have hui := h.own i u ps hu hps
  have hs := grown_set w1 g i u'
  have hV : Value.ownBlock (.slice (some ⟨g, 0, none⟩) n c) = some g := rfl
  have hng : u.ownBlock ≠ some g := fun e => hui.notRow h.row hT g e hV
  have ht1 : RowV w1 base TS (.slice (some ⟨g, 0, none⟩) n c) us := World.ownsRow.kept (row := u.ownBlock) h.row k2 (.inr (by rw [hV]; exact fun e => hng e.symm))
  have hum := List.mem_of_getElem? hu
  have off2 : ∀ {l : List Nat} {x : Value}, IsS w1 k x l → Far (.slice (some ⟨g, 0, none⟩) n c) x → IsS (w1.setCell ⟨g, i, none⟩ u') k x l := fun a b => a.farKept b hs
  have lift : ∀ p, IsE k B w p → Far u p.2.1 → Far u p.2.2 → Far (.slice (some ⟨g, 0, none⟩) n c) p.2.1 → Far (.slice (some ⟨g, 0, none⟩) n c) p.2.2 → IsE k B (w1.setCell ⟨g, i, none⟩ u') p ∧ Far u' p.2.1 ∧ Far u' p.2.2 := fun p a b c d e => by
    have x1 := k1 _ _ _ a.1 b
    have x2 := k1 _ _ _ a.2 c
    exact ⟨⟨off2 x1.1 d, off2 x2.1 e⟩, x1.2, x2.2⟩
  have hall : ∀ qs ∈ pss.set i (ps ++ new), ∀ p ∈ qs, IsE k B (w1.setCell ⟨g, i, none⟩ u') p ∧ (Far u' p.2.1 ∧ Far u' p.2.2) ∧ (∀ v ∈ us, Far v p.2.1 ∧ Far v p.2.2) ∧ Far (.slice (some ⟨g, 0, none⟩) n c) p.2.1 ∧ Far (.slice (some ⟨g, 0, none⟩) n c) p.2.2 := by
    intro qs hqs p hp
    have hpq : (p ∈ new) ∨ ∃ qs' ∈ pss, p ∈ qs' := by
      rcases List.mem_or_eq_of_mem_set hqs with hqs | rfl
      · exact .inr ⟨qs, hqs, hp⟩
      · rcases List.mem_append.1 hp with hp | hp
        · exact .inr ⟨ps, List.mem_of_getElem? hps, hp⟩
        · exact .inl hp
    rcases hpq with hp | ⟨qs', hq', hp⟩
    · obtain ⟨e1, f1, f2⟩ := hnew p hp
      have fV := hfarV p hp
      exact ⟨⟨off2 e1.1 fV.1, off2 e1.2 fV.2⟩, ⟨f1, f2⟩, fun v hv => hfar v hv p hp, fV⟩
    · obtain ⟨e1, f1, f2⟩ := h.far u hum qs' hq' p hp
      have fV := (h.farV qs' hq' p hp).2
      obtain ⟨e2, f3, f4⟩ := lift p e1 f1 f2 fV.1 fV.2
      exact ⟨e2, ⟨f3, f4⟩, fun v hv => (h.far v hv qs' hq' p hp).2, fV⟩
  refine ⟨ht1.stored i u', by rw [List.length_set, List.length_set]; exact h.len, fun j x y hx hy => ?_, fun v hv qs hqs p hp => ?_, fun qs hqs p hp => ⟨(hall qs hqs p hp).1, (hall qs hqs p hp).2.2.2⟩, fun a b x y hab hx hy q hq hq2 => ?_⟩
  · rcases mem_set_at hx with ⟨rfl, rfl⟩ | ⟨hj, hx⟩
    · rcases mem_set_at hy with ⟨_, rfl⟩ | ⟨hj, _⟩
      · exact hrow.other hs fun q hq e => hrow.notRow ht1 hT q hq e
      · exact absurd rfl hj
    · rcases mem_set_at hy with ⟨e, _⟩ | ⟨_, hy⟩
      · exact absurd e hj
      · have r0 := h.own j x y hx hy
        have r1 := r0.other k2 fun q hq e => h.apart i j u x hj hu hx q e hq
        exact r1.other hs fun q hq e => r1.notRow ht1 hT q hq e
  · obtain ⟨e1, f1, f2, _⟩ := hall qs hqs p hp
    refine ⟨e1, ?_⟩
    rcases List.mem_or_eq_of_mem_set hv with hv | rfl
    · exact f2 v hv
    · exact f1
  · rcases mem_set_at hx with ⟨rfl, rfl⟩ | ⟨ha, hx1⟩
    · rcases mem_set_at hy with ⟨e, _⟩ | ⟨_, hy⟩
      · exact hab e
      · obtain ⟨pb, hpb⟩ : ∃ pb, pss[b]? = some pb := ⟨_, List.getElem?_eq_getElem (by rw [← h.len]; exact (List.getElem?_eq_some_iff.1 hy).1)⟩
        have hlt := (h.own b y pb hy hpb).under q hq2
        exact k3 q hlt (fun e => h.apart i b u y hab hu hy q e hq2) hq
    · rcases mem_set_at hy with ⟨rfl, rfl⟩ | ⟨hb, hy1⟩
      · obtain ⟨pa, hpa⟩ : ∃ pa, pss[a]? = some pa := ⟨_, List.getElem?_eq_getElem (by rw [← h.len]; exact (List.getElem?_eq_some_iff.1 hx1).1)⟩
        have hlt := (h.own a x pa hx1 hpa).under q hq
        exact k3 q hlt (fun e => h.apart i a u x ha hu hx1 q e hq) hq2
      · exact h.apart a b x y hab hx1 hy1 q hq hq2
theorem TabO.cell {k : IntKind} {B : Nat} {T : TypeId} {w : World} {base g n c : Nat} {TS : TypeId} {us : List Value} {pss : List (List Elt)} (h : TabO k B T w base TS (.slice (some ⟨g, 0, none⟩) n c) us pss) {i : Nat} {u : Value} (hu : us[i]? = some u) : w.cell? ⟨g, i, none⟩ = some u := h.row.cellAt hu
theorem TabO.frozen {k : IntKind} {B : Nat} {T : TypeId} {w : World} {base g n c : Nat} {TS : TypeId} {us : List Value} {pss : List (List Elt)} (h : TabO k B T w base TS (.slice (some ⟨g, 0, none⟩) n c) us pss) (i : Nat) : w.frozen? ⟨g, i, none⟩ = false := h.row.frozenAt i
/-- Limbs in new memory (or none) lie elsewhere than all rows and the table. -/
theorem TabO.farNew {k : IntKind} {B : Nat} {T : TypeId} {w : World} {base : Nat} {TS : TypeId} {V : Value} {us : List Value} {pss : List (List Elt)} (h : TabO k B T w base TS V us pss) {x : Value} (hx : Fresh w.heap.size x) : (∀ v ∈ us, Far v x) ∧ Far V x := by
  refine ⟨fun v hv => ?_, hx.far h.row.under⟩
  obtain ⟨i, hi⟩ := List.mem_iff_getElem?.1 hv
  obtain ⟨ps, hp⟩ : ∃ ps, pss[i]? = some ps := ⟨_, List.getElem?_eq_getElem (by rw [← h.len]; exact (List.getElem?_eq_some_iff.1 hi).1)⟩
  exact hx.far (h.own i v ps hi hp).under
theorem valq_set (pss : List (List Elt)) (i : Nat) (ps : List Elt) : valq (pss.set i ps) = (valq pss).set i (ps.map (·.1)) := by rw [valq, List.map_set]; rfl
theorem valq_at {pss : List (List Elt)} {i : Nat} {ps : List Elt} (h : pss[i]? = some ps) : (valq pss)[i]? = some (ps.map (·.1)) := by rw [valq, List.getElem?_map, h]; rfl
theorem valq_len (pss : List (List Elt)) : (valq pss).length = pss.length := List.length_map _
theorem valq_nil (n : Nat) : valq (List.replicate n []) = List.replicate n [] := by rw [valq, List.map_replicate]; rfl
/-- A slice of tables. -/
def ListT (w : World) (v : Value) (ts : List (List (List Rat))) : Prop := ∃ us : List Value, us.length = ts.length ∧ IsV w v us ∧ us.length ≤ 1000000 ∧ ∀ (i : Nat) (u : Value) (t : List (List Rat)), us[i]? = some u → ts[i]? = some t → SlT .u64 4294967296 w u t
theorem ListT.below {w w' : World} {v : Value} {ts : List (List (List Rat))} (h : ListT w v ts) (hb : Below w.heap.size w w') : ListT w' v ts := by
  obtain ⟨us, h1, h2, h3, h4⟩ := h
  exact ⟨us, h1, h2.below hb, h3, fun i u t hu ht => (h4 i u t hu ht).below hb⟩
theorem ListT.shape {w : World} {v : Value} {ts : List (List (List Rat))} (h : ListT w v ts) : ∃ A c, v = .slice A ts.length c ∧ ts.length ≤ c := by
  obtain ⟨us, h1, ⟨A, c, e, h2, _⟩, _⟩ := h
  exact ⟨A, c, by rw [e, h1], by omega⟩
theorem ListT.at_ {w : World} {A : Option Addr} {n c i : Nat} {ts : List (List (List Rat))} {t : List (List Rat)} (h : ListT w (.slice A n c) ts) (hr : ts[i]? = some t) : ∃ ad Ar cr, A = some ad ∧ i < n ∧ w.cell? (ad.add i) = some (.slice Ar t.length cr) ∧ SlT .u64 4294967296 w (.slice Ar t.length cr) t := by
  obtain ⟨us, h1, ⟨A', c', e, h2, h3⟩, _, h5⟩ := h
  injection e with e1 e2 e3
  subst e1; subst e2; subst e3
  have hi : i < us.length := by have := (List.getElem?_eq_some_iff.1 hr).1; omega
  obtain ⟨ad, ha, hc⟩ := h3 i _ (List.getElem?_eq_getElem hi)
  have hs := h5 i _ t (List.getElem?_eq_getElem hi) hr
  obtain ⟨Ar, cr, e, _, _⟩ := hs.shape
  rw [e] at hc hs
  exact ⟨ad, Ar, cr, ha, hi, hc, hs⟩
theorem listT_two {w : World} {v u0 u1 : Value} {t0 t1 : List (List Rat)} (h : IsV w v [u0, u1]) (h0 : SlT .u64 4294967296 w u0 t0) (h1 : SlT .u64 4294967296 w u1 t1) : ListT w v [t0, t1] :=
  ⟨[u0, u1], rfl, h, by simp, fun i u t hu ht => by
    rcases i with _ | _ | i
    · obtain rfl : u0 = u := by simpa using hu
      obtain rfl : t0 = t := by simpa using ht
      exact h0
    · obtain rfl : u1 = u := by simpa using hu
      obtain rfl : t1 = t := by simpa using ht
      exact h1
    · simp at hu⟩
theorem listT_three {w : World} {v u0 u1 u2 : Value} {t0 t1 t2 : List (List Rat)} (h : IsV w v [u0, u1, u2]) (h0 : SlT .u64 4294967296 w u0 t0) (h1 : SlT .u64 4294967296 w u1 t1) (h2 : SlT .u64 4294967296 w u2 t2) : ListT w v [t0, t1, t2] :=
  ⟨[u0, u1, u2], rfl, h, by simp, fun i u t hu ht => by
    rcases i with _ | _ | _ | i
    · obtain rfl : u0 = u := by simpa using hu
      obtain rfl : t0 = t := by simpa using ht
      exact h0
    · obtain rfl : u1 = u := by simpa using hu
      obtain rfl : t1 = t := by simpa using ht
      exact h1
    · obtain rfl : u2 = u := by simpa using hu
      obtain rfl : t2 = t := by simpa using ht
      exact h2
    · simp at hu⟩
theorem SlT.place {k : IntKind} {B : Nat} {w : World} {A : Option Addr} {n c : Nat} {t : List (List Rat)} (h : SlT k B w (.slice A n c) t) (hne : t ≠ []) : ∃ ad, A = some ad := by
  obtain ⟨r, hr⟩ : ∃ r, t[0]? = some r := ⟨_, List.getElem?_eq_getElem (List.length_pos_iff.2 hne)⟩
  obtain ⟨ad, _, _, e, _⟩ := h.at_ hr
  exact ⟨ad, e⟩
theorem SlT.at2 {k : IntKind} {B : Nat} {w : World} {ad : Addr} {n c i : Nat} {t : List (List Rat)} {r : List Rat} (h : SlT k B w (.slice (some ad) n c) t) (hr : t[i]? = some r) : ∃ Ar cr, i < n ∧ w.cell? (ad.add i) = some (.slice Ar r.length cr) ∧ SlF k B w (.slice Ar r.length cr) r := by
  obtain ⟨ad', Ar, cr, e, h1, h2, h3⟩ := h.at_ hr
  injection e with e
  subst e
  exact ⟨Ar, cr, h1, h2, h3⟩
theorem ListT.place {w : World} {A : Option Addr} {n c : Nat} {ts : List (List (List Rat))} (h : ListT w (.slice A n c) ts) (hne : ts ≠ []) : ∃ ad, A = some ad := by
  obtain ⟨r, hr⟩ : ∃ r, ts[0]? = some r := ⟨_, List.getElem?_eq_getElem (List.length_pos_iff.2 hne)⟩
  obtain ⟨ad, _, _, e, _⟩ := h.at_ hr
  exact ⟨ad, e⟩
theorem ListT.at2 {w : World} {ad : Addr} {n c i : Nat} {ts : List (List (List Rat))} {t : List (List Rat)} (h : ListT w (.slice (some ad) n c) ts) (hr : ts[i]? = some t) : ∃ Ar cr, i < n ∧ w.cell? (ad.add i) = some (.slice Ar t.length cr) ∧ SlT .u64 4294967296 w (.slice Ar t.length cr) t := by
  obtain ⟨ad', Ar, cr, e, h1, h2, h3⟩ := h.at_ hr
  injection e with e
  subst e
  exact ⟨Ar, cr, h1, h2, h3⟩
section
variable {P : Program} {Q : Exit → Act → World → Prop} {ops : Array Oper} {L : List Oper} {Φ : List Pd} {w0 : World} {a0 : Act} {i : Nat} {o : Oper}
end
/-- May it be a table: not too many rows and places, all rows of one length. -/
def mayq (t : List (List Rat)) : Prop := t.length ≤ 200 ∧ wideq t ≤ 200 ∧ evenq t
instance (t : List (List Rat)) : Decidable (evenq t) := inferInstanceAs (Decidable (∀ r ∈ t, r.length = wideq t))
instance (t : List (List Rat)) : Decidable (mayq t) := inferInstanceAs (Decidable (_ ∧ _ ∧ _))
/-- What is turned, as far as r rows and i places of the next one are laid. -/
def tst (t : List (List Rat)) (r i : Nat) : List (List Rat) := (List.range (wideq t)).map fun j => colq (t.take (if j < i then r + 1 else r)) j
theorem tst_len (t : List (List Rat)) (r i : Nat) : (tst t r i).length = wideq t := by rw [tst, List.length_map, List.length_range]
theorem tst_zero (t : List (List Rat)) : tst t 0 0 = List.replicate (wideq t) [] := by
  refine List.ext_getElem? fun j => ?_
  by_cases hj : j < wideq t
  · simp [tst, hj, colq]
  · rw [List.getElem?_eq_none (by rw [tst_len]; omega), List.getElem?_eq_none (by simp; omega)]
theorem tst_at {t : List (List Rat)} {r i j : Nat} (h : j < wideq t) : (tst t r i)[j]? = some (colq (t.take (if j < i then r + 1 else r)) j) := by simp [tst, h]
theorem tst_self {t : List (List Rat)} {r i : Nat} (h : i < wideq t) : (tst t r i)[i]? = some (colq (t.take r) i) := by rw [tst_at h, if_neg (by omega)]
theorem colq_snoc {t : List (List Rat)} {r j : Nat} {row : List Rat} {x : Rat} (hr : t[r]? = some row) (hx : row[j]? = some x) : colq (t.take (r + 1)) j = colq (t.take r) j ++ [x] := by
  rw [List.take_add_one, hr]
  unfold colq
  rw [List.map_append]
  exact congrArg (_ ++ [·]) (getD_of hx)
theorem tst_set {t : List (List Rat)} {r i : Nat} {row : List Rat} {x : Rat} (hi : i < wideq t) (hr : t[r]? = some row) (hx : row[i]? = some x) : (tst t r i).set i (colq (t.take r) i ++ [x]) = tst t r (i + 1) := by
  refine List.ext_getElem? fun j => ?_
  by_cases hj : j < wideq t
  · rw [tst_at hj]
    by_cases e : i = j
    · subst e
      rw [List.getElem?_set_self (by rw [tst_len]; exact hj), if_pos (by omega), colq_snoc hr hx]
    · rw [List.getElem?_set_ne e, tst_at hj]
      by_cases e2 : j < i
      · rw [if_pos e2, if_pos (by omega)]
      · rw [if_neg e2, if_neg (by omega)]
  · rw [List.getElem?_eq_none (by rw [List.length_set, tst_len]; omega), List.getElem?_eq_none (by rw [tst_len]; omega)]
theorem tst_next (t : List (List Rat)) (r : Nat) : tst t r (wideq t) = tst t (r + 1) 0 := by
  refine List.ext_getElem? fun j => ?_
  by_cases hj : j < wideq t
  · rw [tst_at hj, tst_at hj, if_pos hj, if_neg (by omega)]
  · rw [List.getElem?_eq_none (by rw [tst_len]; omega), List.getElem?_eq_none (by rw [tst_len]; omega)]
theorem tst_end (t : List (List Rat)) : tst t t.length 0 = turnq t := by
  refine List.map_congr_left fun j hj => ?_
  rw [if_neg (by omega), List.take_of_length_le (Nat.le_refl _)]
/-- Rows with others behind them, as far as so many are laid. -/
def jst {α : Type} (P t : List (List α)) (k : Nat) : List (List α) := List.zipWith (· ++ ·) (P.take k) (t.take k) ++ P.drop k
def joinq {α : Type} (P t : List (List α)) : List (List α) := List.zipWith (· ++ ·) P t
theorem jst_zero {α : Type} (P t : List (List α)) : jst P t 0 = P := by simp [jst]
theorem jst_full {α : Type} {P t : List (List α)} {k : Nat} (h : P.length = t.length) (hk : k = t.length) : jst P t k = joinq P t := by
  subst hk
  unfold jst joinq
  rw [List.take_of_length_le (by omega), List.take_of_length_le (Nat.le_refl _), List.drop_eq_nil_of_le (by omega), List.append_nil]
theorem jst_pre_len {α : Type} {P t : List (List α)} {k : Nat} (h : P.length = t.length) (hk : k ≤ t.length) : (List.zipWith (· ++ ·) (P.take k) (t.take k)).length = k := by
  rw [List.length_zipWith, List.length_take, List.length_take]; omega
theorem jst_at {α : Type} {P t : List (List α)} {k : Nat} {p : List α} (h : P.length = t.length) (hp : P[k]? = some p) : (jst P t k)[k]? = some p := by
  have hk := (List.getElem?_eq_some_iff.1 hp).1
  unfold jst
  rw [List.getElem?_append_right (by rw [jst_pre_len h (by omega)]; exact Nat.le_refl _), jst_pre_len h (by omega), Nat.sub_self, List.getElem?_drop, Nat.add_zero, hp]
theorem jst_set {α : Type} {P t : List (List α)} {k : Nat} {p r : List α} (h : P.length = t.length) (hp : P[k]? = some p) (hr : t[k]? = some r) : (jst P t k).set k (p ++ r) = jst P t (k + 1) := by
  have hk := (List.getElem?_eq_some_iff.1 hp).1
  have hd : P.drop k = p :: P.drop (k + 1) := by
    have e : P[k] = p := by rw [List.getElem?_eq_getElem hk] at hp; exact Option.some.inj hp
    rw [← e]
    exact List.drop_eq_getElem_cons hk
  unfold jst
  rw [List.set_append_right _ _ (by rw [jst_pre_len h (by omega)]; exact Nat.le_refl _), jst_pre_len h (by omega), Nat.sub_self, hd, List.set_cons_zero, List.take_add_one, hp, List.take_add_one, hr, List.zipWith_append (by rw [List.length_take, List.length_take]; omega)]
  simp
theorem joinq_nil {α : Type} (t : List (List α)) : joinq (List.replicate t.length []) t = t := by
  refine List.ext_getElem? fun i => ?_
  unfold joinq
  rw [List.getElem?_zipWith]
  cases ht : t[i]? with
  | none => cases (List.replicate t.length ([] : List α))[i]? <;> rfl
  | some r => rw [List.getElem?_replicate, if_pos (List.getElem?_eq_some_iff.1 ht).1]; rfl
/-- Products of each row with one row. -/
def dotsq (t : List (List Rat)) (v : List Rat) : List Rat := t.map fun r => dotq r v
theorem dotsq_len (t : List (List Rat)) (v : List Rat) : (dotsq t v).length = t.length := List.length_map _
theorem dotsq_at {t : List (List Rat)} {v r : List Rat} {i : Nat} (h : t[i]? = some r) : (dotsq t v)[i]? = some (dotq r v) := by rw [dotsq, List.getElem?_map, h]; rfl
theorem dotsq_turn (r : List Rat) (b : List (List Rat)) : dotsq (turnq b) r = rowq r b (wideq b) := by
  unfold dotsq turnq rowq
  rw [List.map_map]
  exact List.map_congr_left fun j _ => dotq_comm _ _
/-- How long the numbers of a table are. -/
def lenT (t : List (List Rat)) (m : Nat) : Prop := ∀ r ∈ t, ∀ x ∈ r, lenQ x m
theorem lenT.mono {t : List (List Rat)} {m n : Nat} (h : lenT t m) (hmn : m ≤ n) : lenT t n := fun r hr x hx => (h r hr x hx).mono hmn
theorem lenQ_zero (m : Nat) : lenQ (0 : Rat) (m + 1) := lenQ.mono (m := 1) ⟨digs_len_le (k := 1) (by omega) (by decide +kernel), digs_len_le (k := 1) (by omega) (by decide +kernel)⟩ (by omega)
theorem lenQ_getD {r : List Rat} {j m : Nat} (h : ∀ x ∈ r, lenQ x m) (hm : 1 ≤ m) : lenQ (r.getD j 0) m := by
  by_cases hj : j < r.length
  · exact h _ (List.mem_of_getElem? (getD_at hj))
  · rw [List.getD_eq_getElem?_getD, List.getElem?_eq_none (by omega)]
    obtain ⟨n, rfl⟩ : ∃ n, m = n + 1 := ⟨m - 1, by omega⟩
    exact lenQ_zero n
theorem lenT_col {t : List (List Rat)} {j m : Nat} (h : lenT t m) (hm : 1 ≤ m) : ∀ x ∈ colq t j, lenQ x m := by
  intro x hx
  obtain ⟨r, hr, rfl⟩ := List.mem_map.1 hx
  exact lenQ_getD (h r hr) hm
theorem lenT_turn {t : List (List Rat)} {m : Nat} (h : lenT t m) (hm : 1 ≤ m) : lenT (turnq t) m := by
  intro r hr
  obtain ⟨j, _, rfl⟩ := List.mem_map.1 hr
  exact lenT_col h hm
theorem lenT_mul {a b : List (List Rat)} {m n : Nat} (ha : lenT a m) (hb : lenT b m) (hm : 1 ≤ m) (he : ∀ r ∈ a, r.length = b.length) (hn : b.length ≤ n) : lenT (mulq a b) ((m + m + 1) * n + 1) := by
  intro r hr x hx
  obtain ⟨s, hs, rfl⟩ := List.mem_map.1 hr
  obtain ⟨j, _, rfl⟩ := List.mem_map.1 hx
  refine (lenQ_dotq (ha s hs) (lenT_col hb hm) (by rw [colq_len]; exact he s hs)).mono ?_
  rw [he s hs]
  exact Nat.add_le_add_right (Nat.mul_le_mul_left _ hn) _
theorem lenT_ident (n : Nat) : lenT (identq n) 1 := by
  intro r hr x hx
  obtain ⟨j, _, rfl⟩ := List.mem_map.1 hr
  have h0 : lenQ (0 : Rat) 1 := lenQ_zero 0
  have h1 : lenQ (1 : Rat) 1 := ⟨digs_len_le (k := 1) (by omega) (by decide +kernel), digs_len_le (k := 1) (by omega) (by decide +kernel)⟩
  unfold unitq at hx
  rcases List.mem_or_eq_of_mem_set hx with hx | rfl
  · rw [List.eq_of_mem_replicate (show x ∈ List.replicate n (0 : Rat) from hx)]; exact h0
  · exact h1
/-- Tables that fit, from the left: all may be, and each has as many rows as the one ahead has places. -/
def fitsq (ts : List (List (List Rat))) : Prop := ts ≠ [] ∧ ∀ (i : Nat) (t : List (List Rat)), ts[i]? = some t → mayq t ∧ ∀ (s : List (List Rat)), 0 < i → ts[i - 1]? = some s → wideq s = t.length
/-- Their product. -/
def prodT (ts : List (List (List Rat))) : List (List Rat) := ts.tail.foldl mulq (ts.headD [])
set_option linter.unusedSimpArgs false
/-- The whole numbers 0 and 1 as fractions. -/
theorem RatV_of0 (w : World) : Calls Tryz.prog 53 #[.int .i64 0] w (RetQ (0 : Rat) w) := of8_any 0 w (by omega) (by omega)
theorem RatV_of1 (w : World) : Calls Tryz.prog 53 #[.int .i64 1] w (RetQ (1 : Rat) w) := of8_any 1 w (by omega) (by omega)
/-- A row of these, made by the call. -/
def RetRo (qs : List Rat) (w : World) (e : Ending) (w' : World) : Prop := ∃ g, e = .returned (.slice (some ⟨g, 0, none⟩) qs.length qs.length) ∧ RowN w' g qs.length qs ∧ w.heap.size ≤ g ∧ Below w.heap.size w w'
theorem RetRo.pd {n : Nat} {qs : List Rat} {w : World} {e : Ending} {w' : World} {B : Nat} (h : RetRo qs w e w') (hn : qs.length = n) (hB : B ≤ w.heap.size) : RetPd (pro n qs B) w e w' := by
  obtain ⟨g, h1, h2, h3, h4⟩ := h
  rw [hn] at h1 h2
  exact ⟨_, h1, ⟨g, rfl, h2, Nat.le_trans hB h3⟩, h4⟩
theorem RetRN.qle {qs : List Rat} {w : World} {e : Ending} {w' : World} (h : RetRN qs w e w') (hl : qs.length ≤ 1000000000) : RetQLE qs 0 w e w' := by
  obtain ⟨g, he, hR, _, hb⟩ := h
  exact ⟨_, he, by rw [if_pos rfl]; exact hR.sl rfl hl, hb⟩
theorem RetNN.qle {n : Int} {w : World} {e : Ending} {w' : World} (h : RetNN n w e w') : RetQLE [] n w e w' :=
  ⟨_, h.1, by split <;> exact slF_nil _ _ _, h.2⟩
set_option maxHeartbeats 3200000 in
set_option maxRecDepth 100000 in
theorem noughts_any (n : Int) (d : Nat) (w : World) (hn : n = (d : Int)) (hd : d ≤ 200) :
    Calls Tryz.prog 98 #[.int .i64 n] w (RetRo (zerosq d) w) := by
  have bb : Below w.heap.size w w := Below.refl _ _
  subst hn
  have HZL : Hid ((zerosq d).length = d) := zerosq_len d
  go_enter Tryz.func98, Tryz.ntmps98
  go_upto_region 1 with (fail)
  have hsz0 := bb.size
  go_wp2_with (at_make; refine wpList_make_q rfl _ _ rfl Tryz.underlying53 info_rat d rfl rfl (by omega) ?_; intro wm RN hbm)
  replace bb := bb.trans (hbm.mono bb.size)
  have hsz1 := bb.size
  obtain ⟨g, hg⟩ : ∃ g, g = w.heap.size := ⟨_, rfl⟩
  rw [← hg] at RN ⊢
  have hg_ : w.heap.size ≤ g := by omega
  clear hg
  have hg := hg_
  clear hg_
  go_wp2
  go_loopw [9] (fun v9 wr => ∃ k : Nat, k ≤ d ∧ RowN wr g d ((zerosq d).take k) ∧ Below w.heap.size w wr ∧ v9 = .int .i64 (k : Int)) (fun v9 _ => d - (intOf v9).toNat)
  case atStart => exact ⟨0, by omega, RN, bb, rfl⟩
  case round =>
    obtain ⟨k, hk, hR, hbw, rfl⟩ := hrel
    clear RN bb
    have RN := hR
    have bb := hbw
    clear hR hbw
    have hszr := bb.size
    have hgl := RN.lt
    by_cases hlt : k < d
    · have HTK : Hid ((zerosq d).take (k + 1) = (zerosq d).take k ++ [0]) := take_snoc (zerosq_at hlt)
      have HLK : Hid (k = ((zerosq d).take k).length) := by show _ = _; rw [List.length_take, HZL.out]; omega
      have sB := bb.size
      go_upto_region 5 with (fail)
      refine flowp 4 [Pd.eq (.slice (some ⟨g, 0, none⟩) d d), Pd.eq (.int .i64 (k : Int)), pq ((0 : Rat)) wr.heap.size, Pd.eq (.pointer (some ⟨g, 0 + k * 3, none⟩))] (by kernel_rfl) ?ob1 ?done1
      case ob1 =>
        refine And.intro (ob_move rfl (wt_none rfl) (ev_far rfl rfl) (fun _ _ h => h)) ?_
        refine And.intro (ob_move rfl (wt_none rfl) (ev_far rfl rfl) (fun _ _ h => h)) ?_
        refine And.intro (ob_call1 rfl Tryz.func53 (by kernel_rfl) (wt_none rfl) (ev_const _) (fun w2 u0 hb h0 => by obtain rfl := h0; exact (RatV_of0 _).mono fun e w3 h => RetQ.pd h hb.size)) ?_
        refine And.intro (ob_indexAddr rfl (wt_none rfl) (ev_dep (j := 0) (by kernel_rfl) rfl rfl) (ev_dep (j := 1) (by kernel_rfl) rfl rfl) (fun _ _ _ hx hy => ⟨_, by rw [hx, hy]; exact index3 (k := k) Tryz.underlying53 (by kernel_rfl) hlt _, rfl⟩)) ?_
        trivial
      case done1 =>
        refine fun w3 hb3 v0 h0 v1 h1 v2 h2 v3 h3 b hbf => ?_
        obtain rfl := h0; obtain rfl := h1; obtain rfl := h3
        obtain ⟨q2, f2⟩ := h2
        simp only [Act.put, List.setIfInBounds_toArray, List.set_cons_zero, List.set_cons_succ] at hbf
        subst hbf
        replace RN := RN.below hb3
        replace bb := bb.trans (hb3.mono bb.size)
        have hsz3 := bb.size
        have s_2 := sB
        obtain ⟨u2, t2, rfl, q2, d2⟩ := q2
        obtain ⟨A9, c9, rfl, _⟩ := id q2
        obtain ⟨D9, e9, rfl, _⟩ := id d2
        refine ops_store_q (j := 4) rfl rfl rfl rfl (g := g) (i := k) (q := (0 : Rat)) rfl rfl (by kernel_rfl) RN hlt q2 d2 fun w4 hg4 hP4 => ?_
        replace bb := bb.trans ((Below.refl _ _).grown hg4 bb.size (fun g hg => by injection hg with hg; omega))
        have hsz4 := bb.size
        replace RN := hP4.1 HLK.out
        clear hP4
        refine ops_done ?_
        rw [← HTK.out] at RN
        have hsk : d - (k + 1) < d - k := by omega
        go_wp2
        go_roundw
        case rel => exact ⟨k + 1, by omega, RN, bb, by go_num⟩
        case measure => simp [intOf]; omega
    · rw [List.take_of_length_le (by rw [HZL.out]; omega)] at RN
      go_wp2
      go_ret
      exact ⟨g, by rw [HZL.out]; rfl, by rw [HZL.out]; exact RN, hg, bb⟩
set_option maxHeartbeats 3200000 in
set_option maxRecDepth 100000 in
theorem zero_row (n : Int) (d : Nat) (w : World) (hn : n = (d : Int)) (hd : d ≤ 200) :
    Calls Tryz.prog 56 #[.int .i64 n] w (RetRN (zerosq d) w) := by
  have bb : Below w.heap.size w w := Below.refl _ _
  subst hn
  have HL : Hid (decide ((d : Int) < 0) = false) := decide_eq_false (by omega)
  have HG : Hid (decide (200 < (d : Int)) = false) := decide_eq_false (by omega)
  have HZL : Hid ((zerosq d).length = d) := zerosq_len d
  go_enter Tryz.func56, Tryz.ntmps56
  go_upto_region 1 with (fail)
  have hsz0 := bb.size
  have sB := bb.size
  refine flowp 6 [Pd.eq (.int .i64 (d : Int)), Pd.eq (.bool false), Pd.eq (.bool false), Pd.eq (.int .i64 (d : Int)), Pd.eq (.bool false), Pd.eq (.bool false)] (by kernel_rfl) ?ob4 ?done4
  case ob4 =>
    refine And.intro (ob_move rfl (wt_none rfl) (ev_far rfl rfl) (fun _ _ h => h)) ?_
    refine And.intro (ob_bin rfl (wt_none rfl) (ev_dep (j := 0) (by kernel_rfl) rfl rfl) (ev_const _) (fun _ _ _ hx hy => ⟨.bool false, by rw [hx, hy, bin_lss_int, HL.out], rfl⟩)) ?_
    refine And.intro (ob_move rfl (wt_none rfl) (ev_dep (j := 1) (by kernel_rfl) rfl rfl) (fun _ _ h => h)) ?_
    refine And.intro (ob_move rfl (wt_dep (c := false) (b := false) (g := 2) rfl (by kernel_rfl) rfl rfl rfl (by exact fun _ _ h => h)) (ev_far rfl rfl) (fun _ _ h => h)) ?_
    refine And.intro (ob_bin rfl (wt_dep (c := false) (b := false) (g := 2) rfl (by kernel_rfl) rfl rfl rfl (by exact fun _ _ h => h)) (ev_dep (j := 3) (by kernel_rfl) rfl rfl) (ev_const _) (fun _ _ _ hx hy => ⟨.bool false, by rw [hx, hy, bin_gtr_int, HG.out], rfl⟩)) ?_
    refine And.intro (ob_pick (b := false) rfl (wt_none rfl) (ev_dep (j := 2) (by kernel_rfl) rfl rfl) (ev_dep (j := 4) (by kernel_rfl) rfl rfl) (fun _ _ h => h)) ?_
    trivial
  case done4 =>
    refine fun w1 hb1 v0 h0 v1 h1 v2 h2 v3 h3 v4 h4 v5 h5 b hbf => ?_
    obtain rfl := h0; obtain rfl := h1; obtain rfl := h2; obtain rfl := h3; obtain rfl := h4; obtain rfl := h5
    simp only [Act.put, List.setIfInBounds_toArray, List.set_cons_zero, List.set_cons_succ] at hbf
    subst hbf
    replace bb := bb.trans (hb1.mono bb.size)
    have hsz1 := bb.size
    refine ops_done ?_
    have hw1 := bb.size
    have sB := bb.size
    go_upto_region 3 with (fail)
    refine flowp 4 [Pd.eq (.int .i64 (d : Int)), pro d (zerosq d) w1.heap.size, pro d (zerosq d) w1.heap.size, Pd.eq (.int .i64 0)] (by kernel_rfl) ?ob5 ?done5
    case ob5 =>
      refine And.intro (ob_move rfl (wt_none rfl) (ev_far rfl rfl) (fun _ _ h => h)) ?_
      refine And.intro (ob_call1 rfl Tryz.func98 (by kernel_rfl) (wt_none rfl) (ev_dep (j := 0) (by kernel_rfl) rfl rfl) (fun w2 u0 hb h0 => by obtain rfl := h0; exact (noughts_any _ (d) _ rfl hd).mono fun e w3 h => RetRo.pd h HZL.out hb.size)) ?_
      refine And.intro (ob_assign rfl (wt_none rfl) (ev_dep (j := 1) (by kernel_rfl) rfl rfl) (fun _ _ h => h)) ?_
      refine And.intro (ob_assign rfl (wt_none rfl) (ev_const _) (fun _ _ h => h)) ?_
      trivial
    case done5 =>
      refine fun w2 hb2 v0 h0 v1 h1 v2 h2 v3 h3 b hbf => ?_
      obtain rfl := h0; obtain rfl := h3
      obtain ⟨g, rfl, RN, hg⟩ := h1
      obtain ⟨g, rfl, RN, hg⟩ := h2
      simp only [Act.put, List.setIfInBounds_toArray, List.set_cons_zero, List.set_cons_succ] at hbf
      subst hbf
      replace bb := bb.trans (hb2.mono bb.size)
      have hsz2 := bb.size
      refine ops_done ?_
      go_wp2
      go_ret2
      exact ⟨_, by rw [HZL.out]; rfl, by rw [HZL.out]; exact RN, by omega, bb⟩
set_option maxHeartbeats 3200000 in
set_option maxRecDepth 100000 in
theorem unit_row (n i : Int) (d k : Nat) (w : World) (hn : n = (d : Int)) (hi : i = (k : Int)) (hd : d ≤ 200) (hk : k < d) :
    Calls Tryz.prog 68 #[.int .i64 n, .int .i64 i] w (RetRN (unitq d k) w) := by
  have bb : Below w.heap.size w w := Below.refl _ _
  have HN := Lib.hid hn
  have H3 : Hid (decide (i < 0) = false) := decide_eq_false (by omega)
  have H4 : Hid (decide (n ≤ i) = false) := decide_eq_false (by omega)
  have HZL : Hid ((zerosq d).length = d) := zerosq_len d
  have HUL : Hid ((unitq d k).length = d) := unitq_len d k
  subst hi
  clear hn
  go_enter Tryz.func68, Tryz.ntmps68
  go_upto_region 1 with (fail)
  have hsz0 := bb.size
  have sB := bb.size
  refine flowp 7 [Pd.eq (.int .i64 n), prn d (zerosq d) w.heap.size, prn d (zerosq d) w.heap.size, pro d (zerosq d) w.heap.size, Pd.eq (.int .i64 0), pro d (zerosq d) w.heap.size, Pd.eq (.int .i64 0)] (by kernel_rfl) ?ob12 ?done12
  case ob12 =>
    refine And.intro (ob_move rfl (wt_none rfl) (ev_far rfl rfl) (fun _ _ h => h)) ?_
    refine And.intro (ob_call1 rfl Tryz.func56 (by kernel_rfl) (wt_none rfl) (ev_dep (j := 0) (by kernel_rfl) rfl rfl) (fun w2 u0 hb h0 => by obtain rfl := h0; exact (zero_row n d _ HN.out hd).mono fun e w3 h => RetRN.pd h (zerosq_len d) hb.size)) ?_
    refine And.intro (ob_move rfl (wt_none rfl) (ev_dep (j := 1) (by kernel_rfl) rfl rfl) (fun _ _ h => h)) ?_
    refine And.intro (ob_extract rfl (wt_none rfl) (ev_dep (j := 2) (by kernel_rfl) rfl rfl) (fun w2 u hu => by obtain ⟨g_, rfl, q1, q2⟩ := hu; exact ⟨_, rfl, g_, rfl, q1, q2⟩)) ?_
    refine And.intro (ob_extract rfl (wt_none rfl) (ev_dep (j := 2) (by kernel_rfl) rfl rfl) (fun w2 u hu => by obtain ⟨g_, rfl, q1, q2⟩ := hu; exact ⟨_, rfl, rfl⟩)) ?_
    refine And.intro (ob_assign rfl (wt_none rfl) (ev_dep (j := 3) (by kernel_rfl) rfl rfl) (fun _ _ h => h)) ?_
    refine And.intro (ob_assign rfl (wt_none rfl) (ev_dep (j := 4) (by kernel_rfl) rfl rfl) (fun _ _ h => h)) ?_
    trivial
  case done12 =>
    refine fun w1 hb1 v0 h0 v1 h1 v2 h2 v3 h3 v4 h4 v5 h5 v6 h6 b hbf => ?_
    obtain rfl := h0; obtain rfl := h4; obtain rfl := h6
    clear h1
    clear h2
    obtain ⟨g, rfl, RN, hg⟩ := h3
    obtain ⟨g, rfl, RN, hg⟩ := h5
    simp only [Act.put, List.setIfInBounds_toArray, List.set_cons_zero, List.set_cons_succ] at hbf
    subst hbf
    replace bb := bb.trans (hb1.mono bb.size)
    have hsz1 := bb.size
    refine ops_done ?_
    have sB := bb.size
    go_upto_region 2 with (fail)
    refine flowp 11 [Pd.eq (.int .i64 0), Pd.eq (.bool false), Pd.eq (.bool false), Pd.eq (.int .i64 (k : Int)), Pd.eq (.bool false), Pd.eq (.bool false), Pd.eq (.bool false), Pd.eq (.int .i64 (k : Int)), Pd.eq (.int .i64 n), Pd.eq (.bool false), Pd.eq (.bool false)] (by kernel_rfl) ?ob13 ?done13
    case ob13 =>
      refine And.intro (ob_move rfl (wt_none rfl) (ev_far rfl rfl) (fun _ _ h => h)) ?_
      refine And.intro (ob_bin rfl (wt_none rfl) (ev_dep (j := 0) (by kernel_rfl) rfl rfl) (ev_const _) (fun _ _ _ hx hy => ⟨.bool ((0 : Int) != 0), by rw [hx, hy]; exact bin_neq_int _ _ _ _ _, congrArg Value.bool (by decide)⟩)) ?_
      refine And.intro (ob_move rfl (wt_none rfl) (ev_dep (j := 1) (by kernel_rfl) rfl rfl) (fun _ _ h => h)) ?_
      refine And.intro (ob_move rfl (wt_dep (c := false) (b := false) (g := 2) rfl (by kernel_rfl) rfl rfl rfl (by exact fun _ _ h => h)) (ev_far rfl rfl) (fun _ _ h => h)) ?_
      refine And.intro (ob_bin rfl (wt_dep (c := false) (b := false) (g := 2) rfl (by kernel_rfl) rfl rfl rfl (by exact fun _ _ h => h)) (ev_dep (j := 3) (by kernel_rfl) rfl rfl) (ev_const _) (fun _ _ _ hx hy => ⟨.bool false, by rw [hx, hy, bin_lss_int, H3.out], rfl⟩)) ?_
      refine And.intro (ob_pick (b := false) rfl (wt_none rfl) (ev_dep (j := 2) (by kernel_rfl) rfl rfl) (ev_dep (j := 4) (by kernel_rfl) rfl rfl) (fun _ _ h => h)) ?_
      refine And.intro (ob_move rfl (wt_none rfl) (ev_dep (j := 5) (by kernel_rfl) rfl rfl) (fun _ _ h => h)) ?_
      refine And.intro (ob_move rfl (wt_dep (c := false) (b := false) (g := 6) rfl (by kernel_rfl) rfl rfl rfl (by exact fun _ _ h => h)) (ev_far rfl rfl) (fun _ _ h => h)) ?_
      refine And.intro (ob_move rfl (wt_dep (c := false) (b := false) (g := 6) rfl (by kernel_rfl) rfl rfl rfl (by exact fun _ _ h => h)) (ev_far rfl rfl) (fun _ _ h => h)) ?_
      refine And.intro (ob_bin rfl (wt_dep (c := false) (b := false) (g := 6) rfl (by kernel_rfl) rfl rfl rfl (by exact fun _ _ h => h)) (ev_dep (j := 7) (by kernel_rfl) rfl rfl) (ev_dep (j := 8) (by kernel_rfl) rfl rfl) (fun _ _ _ hx hy => ⟨.bool false, by rw [hx, hy, bin_geq_int, H4.out], rfl⟩)) ?_
      refine And.intro (ob_pick (b := false) rfl (wt_none rfl) (ev_dep (j := 6) (by kernel_rfl) rfl rfl) (ev_dep (j := 9) (by kernel_rfl) rfl rfl) (fun _ _ h => h)) ?_
      trivial
    case done13 =>
      refine fun w2 hb2 v0 h0 v1 h1 v2 h2 v3 h3 v4 h4 v5 h5 v6 h6 v7 h7 v8 h8 v9 h9 v10 h10 b hbf => ?_
      obtain rfl := h0; obtain rfl := h1; obtain rfl := h2; obtain rfl := h3; obtain rfl := h4; obtain rfl := h5; obtain rfl := h6; obtain rfl := h7; obtain rfl := h8; obtain rfl := h9; obtain rfl := h10
      simp only [Act.put, List.setIfInBounds_toArray, List.set_cons_zero, List.set_cons_succ] at hbf
      subst hbf
      replace RN := RN.below hb2
      replace bb := bb.trans (hb2.mono bb.size)
      have hsz2 := bb.size
      refine ops_done ?_
      have sB := bb.size
      go_upto_region 4 with (fail)
      refine flowp 4 [Pd.eq (.slice (some ⟨g, 0, none⟩) d d), Pd.eq (.int .i64 (k : Int)), pq ((1 : Rat)) w2.heap.size, Pd.eq (.pointer (some ⟨g, 0 + k * 3, none⟩))] (by kernel_rfl) ?ob14 ?done14
      case ob14 =>
        refine And.intro (ob_move rfl (wt_none rfl) (ev_far rfl rfl) (fun _ _ h => h)) ?_
        refine And.intro (ob_move rfl (wt_none rfl) (ev_far rfl rfl) (fun _ _ h => h)) ?_
        refine And.intro (ob_call1 rfl Tryz.func53 (by kernel_rfl) (wt_none rfl) (ev_const _) (fun w2 u0 hb h0 => by obtain rfl := h0; exact (RatV_of1 _).mono fun e w3 h => RetQ.pd h hb.size)) ?_
        refine And.intro (ob_indexAddr rfl (wt_none rfl) (ev_dep (j := 0) (by kernel_rfl) rfl rfl) (ev_dep (j := 1) (by kernel_rfl) rfl rfl) (fun _ _ _ hx hy => ⟨_, by rw [hx, hy]; exact index3 (k := k) Tryz.underlying53 (by kernel_rfl) hk _, rfl⟩)) ?_
        trivial
      case done14 =>
        refine fun w3 hb3 v0 h0 v1 h1 v2 h2 v3 h3 b hbf => ?_
        obtain rfl := h0; obtain rfl := h1; obtain rfl := h3
        obtain ⟨q2, f2⟩ := h2
        simp only [Act.put, List.setIfInBounds_toArray, List.set_cons_zero, List.set_cons_succ] at hbf
        subst hbf
        replace RN := RN.below hb3
        replace bb := bb.trans (hb3.mono bb.size)
        have hsz3 := bb.size
        have s_2 := sB
        obtain ⟨u2, t2, rfl, q2, d2⟩ := q2
        obtain ⟨A9, c9, rfl, _⟩ := id q2
        obtain ⟨D9, e9, rfl, _⟩ := id d2
        refine ops_store_q (j := 4) rfl rfl rfl rfl (g := g) (i := k) (q := (1 : Rat)) rfl rfl (by kernel_rfl) RN hk q2 d2 fun w4 hg4 hP4 => ?_
        replace bb := bb.trans ((Below.refl _ _).grown hg4 bb.size (fun g hg => by injection hg with hg; omega))
        have hsz4 := bb.size
        replace RN := hP4.2 (by rw [HZL.out]; exact hk)
        clear hP4
        refine ops_done ?_
        go_wp2
        go_ret2
        exact ⟨g, by rw [HUL.out]; rfl, by rw [HUL.out]; exact RN, hg, bb⟩
theorem funit_ok (n i : Int) (d k : Nat) (w : World) (hn : n = (d : Int)) (hi : i = (k : Int)) (hd : d ≤ 200) (hk : k < d) : Calls Tryz.prog 68 #[.int .i64 n, .int .i64 i] w (RetQLE (unitq d k) 0 w) := (unit_row n i d k w hn hi hd hk).mono fun _ _ h => h.qle (by rw [unitq_len]; omega)
theorem lenQ_prods2 {p q : List Rat} {m n : Nat} (h : ∀ x ∈ p, lenQ x m) (h2 : ∀ x ∈ q, lenQ x n) : ∀ x ∈ prods p q, lenQ x (m + n) := by
  intro r hr
  obtain ⟨x, hx, y, hy, rfl⟩ := zip_mem hr
  exact lenQ_mul (h x hx) (h2 y hy)
theorem num_ordz {x : Rat} : (ordz x.num 0 == 0) = decide (x = 0) := by
  by_cases h : x = 0
  · rw [h, decide_eq_true rfl]; rfl
  · rw [decide_eq_false h, beq_eq_false_iff_ne]
    intro e
    have hz : x.num ≠ 0 := fun k => h (Rat.num_eq_zero.1 k)
    rcases Int.lt_or_gt_of_ne hz with k | k
    · rw [ordz_lt k] at e; cases e
    · rw [ordz_gt k] at e; cases e
theorem mul_zero_iff {x y : Rat} : x * y = 0 ↔ x = 0 ∨ y = 0 := by
  constructor
  · intro h
    exact Rat.mul_eq_zero.1 h
  · rintro (rfl | rfl)
    · exact Rat.zero_mul _
    · exact Rat.mul_zero _
set_option maxHeartbeats 1600000 in
set_option maxRecDepth 100000 in
theorem vanishes_any (a0 a1 : Value) (x y : Rat) (b : Bool) (w : World) (h0 : IsQ w a0 x) (h1 : IsQ w a1 y) (hb : b = decide (x * y = 0)) :
    Calls Tryz.prog 118 #[a0, a1] w (RetV (.bool b) w) := by
  obtain ⟨s, hs⟩ : ∃ s, s = ordz x.num 0 := ⟨_, rfl⟩
  obtain ⟨t, ht⟩ : ∃ t, t = ordz y.num 0 := ⟨_, rfl⟩
  have HS := Lib.hid hs
  have HT := Lib.hid ht
  have HB := Lib.hid hb
  clear hb
  by_cases hx : x = 0
  · obtain ⟨u0, t0, rfl, s0, r0⟩ := h0
    obtain ⟨A0, c0, rfl, _⟩ := id s0
    obtain ⟨D0, e0, rfl, _⟩ := id r0
    obtain ⟨u1, t1, rfl, s1, r1⟩ := h1
    obtain ⟨A1, c1, rfl, _⟩ := id s1
    obtain ⟨D1, e1, rfl, _⟩ := id r1
    have H1 : Hid ((s == 0) = true) := by show _ = _; rw [hs, num_ordz, decide_eq_true hx]
    have HW : Hid (b = true) := by show _ = _; rw [HB.out]; exact decide_eq_true (mul_zero_iff.2 (.inl hx))
    clear hs ht hx
    go_enter Tryz.func118, Tryz.ntmps118
    go_upto_region 1 with (fail)
    obtain ⟨wx, hwx, bb, B0, B1, hsz⟩ := vars2 w 36 36 #[.bool (ngB (x).num), .slice A0 (digs 4294967296 (x).num.natAbs).length c0, .slice D0 (digs 4294967296 (x).den).length e0] #[.bool (ngB (y).num), .slice A1 (digs 4294967296 (y).num.natAbs).length c1, .slice D1 (digs 4294967296 (y).den).length e1]
    rw [hwx]
    clear hwx
    have k0s := s0.below bb
    have k0d := r0.below bb
    have k0z : IsZ wx (.agg #[.bool (ngB (x).num), .slice A0 (digs 4294967296 (x).num.natAbs).length c0]) (x).num := ⟨_, rfl, k0s⟩
    have k0 : IsQ wx (.agg #[.bool (ngB (x).num), .slice A0 (digs 4294967296 (x).num.natAbs).length c0, .slice D0 (digs 4294967296 (x).den).length e0]) (x) := ⟨_, _, rfl, k0s, k0d⟩
    have k1s := s1.below bb
    have k1d := r1.below bb
    have k1z : IsZ wx (.agg #[.bool (ngB (y).num), .slice A1 (digs 4294967296 (y).num.natAbs).length c1]) (y).num := ⟨_, rfl, k1s⟩
    have k1 : IsQ wx (.agg #[.bool (ngB (y).num), .slice A1 (digs 4294967296 (y).num.natAbs).length c1, .slice D1 (digs 4294967296 (y).den).length e1]) (y) := ⟨_, _, rfl, k1s, k1d⟩
    have hsz0 := bb.size
    have sB := bb.size
    refine flowp 9 [Pd.eq (.agg #[.bool (ngB (x).num), .slice A0 (digs 4294967296 (x).num.natAbs).length c0, .slice D0 (digs 4294967296 (x).den).length e0]), Pd.eq (.int .i64 s), Pd.eq (.bool true), Pd.eq (.bool true), Pd.any, Pd.any, Pd.any, Pd.eq (.bool true), Pd.eq (.bool true)] (by kernel_rfl) ?ob1 ?done1
    case ob1 =>
      refine And.intro (ob_load rfl (wt_none rfl) (ev_far rfl rfl) (fun w2 hb => run_loadAll Tryz.underlying36 rfl (by kernel_rfl) (B0.below hb)) (fun _ _ => rfl)) ?_
      refine And.intro (ob_call1 rfl Tryz.func43 (by kernel_rfl) (wt_none rfl) (ev_dep (j := 0) (by kernel_rfl) rfl rfl) (fun w2 u0 hb h0 => by obtain rfl := h0; exact (fsign0_any _ x s _ (k0.below hb) HS.out).mono fun e w3 h => RetV.pd h)) ?_
      refine And.intro (ob_bin rfl (wt_none rfl) (ev_dep (j := 1) (by kernel_rfl) rfl rfl) (ev_const _) (fun _ _ _ hx hy => ⟨.bool true, by rw [hx, hy, bin_eql_int, H1.out], rfl⟩)) ?_
      refine And.intro (ob_move rfl (wt_none rfl) (ev_dep (j := 2) (by kernel_rfl) rfl rfl) (fun _ _ h => h)) ?_
      refine And.intro (ob_not (wt_dep (c := true) (b := false) (g := 3) rfl (by kernel_rfl) rfl rfl rfl (by exact fun _ _ h => h)) (fun _ => trivial) rfl) ?_
      refine And.intro (ob_not (wt_dep (c := true) (b := false) (g := 3) rfl (by kernel_rfl) rfl rfl rfl (by exact fun _ _ h => h)) (fun _ => trivial) rfl) ?_
      refine And.intro (ob_not (wt_dep (c := true) (b := false) (g := 3) rfl (by kernel_rfl) rfl rfl rfl (by exact fun _ _ h => h)) (fun _ => trivial) rfl) ?_
      refine And.intro (ob_pick (b := true) rfl (wt_none rfl) (ev_dep (j := 3) (by kernel_rfl) rfl rfl) (ev_const _) (fun _ _ h => h)) ?_
      refine And.intro (ob_assign rfl (wt_none rfl) (ev_dep (j := 7) (by kernel_rfl) rfl rfl) (fun _ _ h => h)) ?_
      trivial
    case done1 =>
      refine fun w1 hb1 v0 h0 v1 h1 v2 h2 v3 h3 v4 h4 v5 h5 v6 h6 v7 h7 v8 h8 b hbf => ?_
      obtain rfl := h0; obtain rfl := h1; obtain rfl := h2; obtain rfl := h3; obtain rfl := h7; obtain rfl := h8
      clear h4
      clear h5
      clear h6
      simp only [Act.put, List.setIfInBounds_toArray, List.set_cons_zero, List.set_cons_succ] at hbf
      subst hbf
      replace B0 := B0.below hb1
      replace k0s := k0s.below hb1
      replace k0d := k0d.below hb1
      replace k0z := k0z.below hb1
      replace k0 := k0.below hb1
      replace B1 := B1.below hb1
      replace k1s := k1s.below hb1
      replace k1d := k1d.below hb1
      replace k1z := k1z.below hb1
      replace k1 := k1.below hb1
      replace bb := bb.trans (hb1.mono bb.size)
      have hsz1 := bb.size
      refine ops_done ?_
      go_wp2
      go_ret
      exact ⟨by rw [HW.out]; rfl, bb⟩
  · by_cases hy : y = 0
    · obtain ⟨u0, t0, rfl, s0, r0⟩ := h0
      obtain ⟨A0, c0, rfl, _⟩ := id s0
      obtain ⟨D0, e0, rfl, _⟩ := id r0
      obtain ⟨u1, t1, rfl, s1, r1⟩ := h1
      obtain ⟨A1, c1, rfl, _⟩ := id s1
      obtain ⟨D1, e1, rfl, _⟩ := id r1
      have H1 : Hid ((s == 0) = false) := by show _ = _; rw [hs, num_ordz, decide_eq_false hx]
      have H2 : Hid ((t == 0) = true) := by show _ = _; rw [ht, num_ordz, decide_eq_true hy]
      have HW : Hid (b = true) := by show _ = _; rw [HB.out]; exact decide_eq_true (mul_zero_iff.2 (.inr hy))
      clear hs ht hx hy
      go_enter Tryz.func118, Tryz.ntmps118
      go_upto_region 1 with (fail)
      obtain ⟨wx, hwx, bb, B0, B1, hsz⟩ := vars2 w 36 36 #[.bool (ngB (x).num), .slice A0 (digs 4294967296 (x).num.natAbs).length c0, .slice D0 (digs 4294967296 (x).den).length e0] #[.bool (ngB (y).num), .slice A1 (digs 4294967296 (y).num.natAbs).length c1, .slice D1 (digs 4294967296 (y).den).length e1]
      rw [hwx]
      clear hwx
      have k0s := s0.below bb
      have k0d := r0.below bb
      have k0z : IsZ wx (.agg #[.bool (ngB (x).num), .slice A0 (digs 4294967296 (x).num.natAbs).length c0]) (x).num := ⟨_, rfl, k0s⟩
      have k0 : IsQ wx (.agg #[.bool (ngB (x).num), .slice A0 (digs 4294967296 (x).num.natAbs).length c0, .slice D0 (digs 4294967296 (x).den).length e0]) (x) := ⟨_, _, rfl, k0s, k0d⟩
      have k1s := s1.below bb
      have k1d := r1.below bb
      have k1z : IsZ wx (.agg #[.bool (ngB (y).num), .slice A1 (digs 4294967296 (y).num.natAbs).length c1]) (y).num := ⟨_, rfl, k1s⟩
      have k1 : IsQ wx (.agg #[.bool (ngB (y).num), .slice A1 (digs 4294967296 (y).num.natAbs).length c1, .slice D1 (digs 4294967296 (y).den).length e1]) (y) := ⟨_, _, rfl, k1s, k1d⟩
      have hsz0 := bb.size
      have sB := bb.size
      refine flowp 9 [Pd.eq (.agg #[.bool (ngB (x).num), .slice A0 (digs 4294967296 (x).num.natAbs).length c0, .slice D0 (digs 4294967296 (x).den).length e0]), Pd.eq (.int .i64 s), Pd.eq (.bool false), Pd.eq (.bool false), Pd.eq (.agg #[.bool (ngB (y).num), .slice A1 (digs 4294967296 (y).num.natAbs).length c1, .slice D1 (digs 4294967296 (y).den).length e1]), Pd.eq (.int .i64 t), Pd.eq (.bool true), Pd.eq (.bool true), Pd.eq (.bool true)] (by kernel_rfl) ?ob2 ?done2
      case ob2 =>
        refine And.intro (ob_load rfl (wt_none rfl) (ev_far rfl rfl) (fun w2 hb => run_loadAll Tryz.underlying36 rfl (by kernel_rfl) (B0.below hb)) (fun _ _ => rfl)) ?_
        refine And.intro (ob_call1 rfl Tryz.func43 (by kernel_rfl) (wt_none rfl) (ev_dep (j := 0) (by kernel_rfl) rfl rfl) (fun w2 u0 hb h0 => by obtain rfl := h0; exact (fsign0_any _ x s _ (k0.below hb) HS.out).mono fun e w3 h => RetV.pd h)) ?_
        refine And.intro (ob_bin rfl (wt_none rfl) (ev_dep (j := 1) (by kernel_rfl) rfl rfl) (ev_const _) (fun _ _ _ hx hy => ⟨.bool false, by rw [hx, hy, bin_eql_int, H1.out], rfl⟩)) ?_
        refine And.intro (ob_move rfl (wt_none rfl) (ev_dep (j := 2) (by kernel_rfl) rfl rfl) (fun _ _ h => h)) ?_
        refine And.intro (ob_load rfl (wt_dep (c := false) (b := false) (g := 3) rfl (by kernel_rfl) rfl rfl rfl (by exact fun _ _ h => h)) (ev_far rfl rfl) (fun w2 hb => run_loadAll Tryz.underlying36 rfl (by kernel_rfl) (B1.below hb)) (fun _ _ => rfl)) ?_
        refine And.intro (ob_call1 rfl Tryz.func43 (by kernel_rfl) (wt_dep (c := false) (b := false) (g := 3) rfl (by kernel_rfl) rfl rfl rfl (by exact fun _ _ h => h)) (ev_dep (j := 4) (by kernel_rfl) rfl rfl) (fun w2 u0 hb h0 => by obtain rfl := h0; exact (fsign0_any _ y t _ (k1.below hb) HT.out).mono fun e w3 h => RetV.pd h)) ?_
        refine And.intro (ob_bin rfl (wt_dep (c := false) (b := false) (g := 3) rfl (by kernel_rfl) rfl rfl rfl (by exact fun _ _ h => h)) (ev_dep (j := 5) (by kernel_rfl) rfl rfl) (ev_const _) (fun _ _ _ hx hy => ⟨.bool true, by rw [hx, hy, bin_eql_int, H2.out], rfl⟩)) ?_
        refine And.intro (ob_pick (b := false) rfl (wt_none rfl) (ev_dep (j := 3) (by kernel_rfl) rfl rfl) (ev_dep (j := 6) (by kernel_rfl) rfl rfl) (fun _ _ h => h)) ?_
        refine And.intro (ob_assign rfl (wt_none rfl) (ev_dep (j := 7) (by kernel_rfl) rfl rfl) (fun _ _ h => h)) ?_
        trivial
      case done2 =>
        refine fun w1 hb1 v0 h0 v1 h1 v2 h2 v3 h3 v4 h4 v5 h5 v6 h6 v7 h7 v8 h8 b hbf => ?_
        obtain rfl := h0; obtain rfl := h1; obtain rfl := h2; obtain rfl := h3; obtain rfl := h4; obtain rfl := h5; obtain rfl := h6; obtain rfl := h7; obtain rfl := h8
        simp only [Act.put, List.setIfInBounds_toArray, List.set_cons_zero, List.set_cons_succ] at hbf
        subst hbf
        replace B0 := B0.below hb1
        replace k0s := k0s.below hb1
        replace k0d := k0d.below hb1
        replace k0z := k0z.below hb1
        replace k0 := k0.below hb1
        replace B1 := B1.below hb1
        replace k1s := k1s.below hb1
        replace k1d := k1d.below hb1
        replace k1z := k1z.below hb1
        replace k1 := k1.below hb1
        replace bb := bb.trans (hb1.mono bb.size)
        have hsz1 := bb.size
        refine ops_done ?_
        go_wp2
        go_ret
        exact ⟨by rw [HW.out]; rfl, bb⟩
    · obtain ⟨u0, t0, rfl, s0, r0⟩ := h0
      obtain ⟨A0, c0, rfl, _⟩ := id s0
      obtain ⟨D0, e0, rfl, _⟩ := id r0
      obtain ⟨u1, t1, rfl, s1, r1⟩ := h1
      obtain ⟨A1, c1, rfl, _⟩ := id s1
      obtain ⟨D1, e1, rfl, _⟩ := id r1
      have H1 : Hid ((s == 0) = false) := by show _ = _; rw [hs, num_ordz, decide_eq_false hx]
      have H2 : Hid ((t == 0) = false) := by show _ = _; rw [ht, num_ordz, decide_eq_false hy]
      have HW : Hid (b = false) := by show _ = _; rw [HB.out]; exact decide_eq_false (fun h => by rcases mul_zero_iff.1 h with h | h; exact hx h; exact hy h)
      clear hs ht hx hy
      go_enter Tryz.func118, Tryz.ntmps118
      go_upto_region 1 with (fail)
      obtain ⟨wx, hwx, bb, B0, B1, hsz⟩ := vars2 w 36 36 #[.bool (ngB (x).num), .slice A0 (digs 4294967296 (x).num.natAbs).length c0, .slice D0 (digs 4294967296 (x).den).length e0] #[.bool (ngB (y).num), .slice A1 (digs 4294967296 (y).num.natAbs).length c1, .slice D1 (digs 4294967296 (y).den).length e1]
      rw [hwx]
      clear hwx
      have k0s := s0.below bb
      have k0d := r0.below bb
      have k0z : IsZ wx (.agg #[.bool (ngB (x).num), .slice A0 (digs 4294967296 (x).num.natAbs).length c0]) (x).num := ⟨_, rfl, k0s⟩
      have k0 : IsQ wx (.agg #[.bool (ngB (x).num), .slice A0 (digs 4294967296 (x).num.natAbs).length c0, .slice D0 (digs 4294967296 (x).den).length e0]) (x) := ⟨_, _, rfl, k0s, k0d⟩
      have k1s := s1.below bb
      have k1d := r1.below bb
      have k1z : IsZ wx (.agg #[.bool (ngB (y).num), .slice A1 (digs 4294967296 (y).num.natAbs).length c1]) (y).num := ⟨_, rfl, k1s⟩
      have k1 : IsQ wx (.agg #[.bool (ngB (y).num), .slice A1 (digs 4294967296 (y).num.natAbs).length c1, .slice D1 (digs 4294967296 (y).den).length e1]) (y) := ⟨_, _, rfl, k1s, k1d⟩
      have hsz0 := bb.size
      have sB := bb.size
      refine flowp 9 [Pd.eq (.agg #[.bool (ngB (x).num), .slice A0 (digs 4294967296 (x).num.natAbs).length c0, .slice D0 (digs 4294967296 (x).den).length e0]), Pd.eq (.int .i64 s), Pd.eq (.bool false), Pd.eq (.bool false), Pd.eq (.agg #[.bool (ngB (y).num), .slice A1 (digs 4294967296 (y).num.natAbs).length c1, .slice D1 (digs 4294967296 (y).den).length e1]), Pd.eq (.int .i64 t), Pd.eq (.bool false), Pd.eq (.bool false), Pd.eq (.bool false)] (by kernel_rfl) ?ob3 ?done3
      case ob3 =>
        refine And.intro (ob_load rfl (wt_none rfl) (ev_far rfl rfl) (fun w2 hb => run_loadAll Tryz.underlying36 rfl (by kernel_rfl) (B0.below hb)) (fun _ _ => rfl)) ?_
        refine And.intro (ob_call1 rfl Tryz.func43 (by kernel_rfl) (wt_none rfl) (ev_dep (j := 0) (by kernel_rfl) rfl rfl) (fun w2 u0 hb h0 => by obtain rfl := h0; exact (fsign0_any _ x s _ (k0.below hb) HS.out).mono fun e w3 h => RetV.pd h)) ?_
        refine And.intro (ob_bin rfl (wt_none rfl) (ev_dep (j := 1) (by kernel_rfl) rfl rfl) (ev_const _) (fun _ _ _ hx hy => ⟨.bool false, by rw [hx, hy, bin_eql_int, H1.out], rfl⟩)) ?_
        refine And.intro (ob_move rfl (wt_none rfl) (ev_dep (j := 2) (by kernel_rfl) rfl rfl) (fun _ _ h => h)) ?_
        refine And.intro (ob_load rfl (wt_dep (c := false) (b := false) (g := 3) rfl (by kernel_rfl) rfl rfl rfl (by exact fun _ _ h => h)) (ev_far rfl rfl) (fun w2 hb => run_loadAll Tryz.underlying36 rfl (by kernel_rfl) (B1.below hb)) (fun _ _ => rfl)) ?_
        refine And.intro (ob_call1 rfl Tryz.func43 (by kernel_rfl) (wt_dep (c := false) (b := false) (g := 3) rfl (by kernel_rfl) rfl rfl rfl (by exact fun _ _ h => h)) (ev_dep (j := 4) (by kernel_rfl) rfl rfl) (fun w2 u0 hb h0 => by obtain rfl := h0; exact (fsign0_any _ y t _ (k1.below hb) HT.out).mono fun e w3 h => RetV.pd h)) ?_
        refine And.intro (ob_bin rfl (wt_dep (c := false) (b := false) (g := 3) rfl (by kernel_rfl) rfl rfl rfl (by exact fun _ _ h => h)) (ev_dep (j := 5) (by kernel_rfl) rfl rfl) (ev_const _) (fun _ _ _ hx hy => ⟨.bool false, by rw [hx, hy, bin_eql_int, H2.out], rfl⟩)) ?_
        refine And.intro (ob_pick (b := false) rfl (wt_none rfl) (ev_dep (j := 3) (by kernel_rfl) rfl rfl) (ev_dep (j := 6) (by kernel_rfl) rfl rfl) (fun _ _ h => h)) ?_
        refine And.intro (ob_assign rfl (wt_none rfl) (ev_dep (j := 7) (by kernel_rfl) rfl rfl) (fun _ _ h => h)) ?_
        trivial
      case done3 =>
        refine fun w1 hb1 v0 h0 v1 h1 v2 h2 v3 h3 v4 h4 v5 h5 v6 h6 v7 h7 v8 h8 b hbf => ?_
        obtain rfl := h0; obtain rfl := h1; obtain rfl := h2; obtain rfl := h3; obtain rfl := h4; obtain rfl := h5; obtain rfl := h6; obtain rfl := h7; obtain rfl := h8
        simp only [Act.put, List.setIfInBounds_toArray, List.set_cons_zero, List.set_cons_succ] at hbf
        subst hbf
        replace B0 := B0.below hb1
        replace k0s := k0s.below hb1
        replace k0d := k0d.below hb1
        replace k0z := k0z.below hb1
        replace k0 := k0.below hb1
        replace B1 := B1.below hb1
        replace k1s := k1s.below hb1
        replace k1d := k1d.below hb1
        replace k1z := k1z.below hb1
        replace k1 := k1.below hb1
        replace bb := bb.trans (hb1.mono bb.size)
        have hsz1 := bb.size
        refine ops_done ?_
        go_wp2
        go_ret
        exact ⟨by rw [HW.out]; rfl, bb⟩
set_option maxHeartbeats 3200000 in
set_option maxRecDepth 100000 in
theorem fdot_gen (a0 a1 : Value) (p q : List Rat) (m n : Nat) (w : World) (h0 : SlF .u64 4294967296 w a0 p) (h1 : SlF .u64 4294967296 w a1 q) (he : p.length = q.length) (hl : p.length ≤ 1000 ∧ (∀ x ∈ p, lenQ x m) ∧ (∀ x ∈ q, lenQ x n) ∧ (m + n + 1) * p.length + 1 ≤ 900) :
    Calls Tryz.prog 99 #[a0, a1] w (RetQE (dotq p q) 0 w) := by
  have sl0 := h0
  obtain ⟨A0, c0, rfl, hc0, hm0⟩ := h0.shape
  unfold maxLen at hm0
  have sl1 := h1
  obtain ⟨A1, c1, rfl, hc1, hm1⟩ := h1.shape
  unfold maxLen at hm1
  have HNE : Hid ((((p.length : Nat) : Int) != ((q.length : Nat) : Int)) = false) := by show _ = _; rw [bne_eq_false_iff_eq]; omega
  have HE := Lib.hid he
  have HLE := Lib.hid hl
  have hl8 : p.length ≤ 1000 := hl.1
  clear he hl
  go_enter Tryz.func99, Tryz.ntmps99
  go_upto_region 1 with (fail)
  obtain ⟨wx, hwx, bb, BR0, hsz⟩ := vars1 w 36 #[.bool false, .slice none 0 0, .slice none 0 0]
  rw [hwx]
  clear hwx
  have hsz0 := bb.size
  have sB := bb.size
  refine flowp 5 [Pd.eq (.slice A0 p.length c0), Pd.eq (.int .i64 ((p.length : Nat) : Int)), Pd.eq (.slice A1 q.length c1), Pd.eq (.int .i64 ((q.length : Nat) : Int)), Pd.eq (.bool false)] (by kernel_rfl) ?ob8 ?done8
  case ob8 =>
    refine And.intro (ob_move rfl (wt_none rfl) (ev_far rfl rfl) (fun _ _ h => h)) ?_
    refine And.intro (ob_len rfl (wt_none rfl) (ev_dep (j := 0) (by kernel_rfl) rfl rfl) (fun _ _ hx => ⟨_, by rw [hx]; exact len_slice Tryz.underlying53 _ _ _ _, rfl⟩)) ?_
    refine And.intro (ob_move rfl (wt_none rfl) (ev_far rfl rfl) (fun _ _ h => h)) ?_
    refine And.intro (ob_len rfl (wt_none rfl) (ev_dep (j := 2) (by kernel_rfl) rfl rfl) (fun _ _ hx => ⟨_, by rw [hx]; exact len_slice Tryz.underlying53 _ _ _ _, rfl⟩)) ?_
    refine And.intro (ob_bin rfl (wt_none rfl) (ev_dep (j := 1) (by kernel_rfl) rfl rfl) (ev_dep (j := 3) (by kernel_rfl) rfl rfl) (fun _ _ _ hx hy => ⟨.bool false, by rw [hx, hy, bin_neq_int, HNE.out], rfl⟩)) ?_
    trivial
  case done8 =>
    refine fun w1 hb1 v0 h0 v1 h1 v2 h2 v3 h3 v4 h4 b hbf => ?_
    obtain rfl := h0; obtain rfl := h1; obtain rfl := h2; obtain rfl := h3; obtain rfl := h4
    simp only [Act.put, List.setIfInBounds_toArray, List.set_cons_zero, List.set_cons_succ] at hbf
    subst hbf
    replace BR0 := BR0.below hb1
    replace bb := bb.trans (hb1.mono bb.size)
    have hsz1 := bb.size
    refine ops_done ?_
    have sB := bb.size
    go_upto_region 3 with (fail)
    have lt1_4 := Blk.lt BR0
    refine flowp 2 [pq ((0 : Rat)) w1.heap.size, pn 36 #[.bool false, .slice none 0 0, .slice none 0 0] w1.heap.size] (by kernel_rfl) ?ob9 ?done9
    case ob9 =>
      refine And.intro (ob_call1 rfl Tryz.func53 (by kernel_rfl) (wt_none rfl) (ev_const _) (fun w2 u0 hb h0 => by obtain rfl := h0; exact (RatV_of0 _).mono fun e w3 h => RetQ.pd h hb.size)) ?_
      refine And.intro (ob_alloc (z := .agg #[.bool false, .slice none 0 0, .slice none 0 0]) rfl rfl (fun _ => by kernel_rfl) (fun _ _ hB h => ⟨_, rfl, hB, h⟩)) ?_
      trivial
    case done9 =>
      refine fun w2 hb2 v0 h0 v1 h1 d1 b hbf => ?_
      obtain ⟨q0, f0⟩ := h0
      obtain ⟨g9_1, rfl, hg1, B1⟩ := h1
      simp only [Act.put, List.setIfInBounds_toArray, List.set_cons_zero, List.set_cons_succ] at hbf
      subst hbf
      replace BR0 := BR0.below hb2
      replace bb := bb.trans (hb2.mono bb.size)
      have hsz2 := bb.size
      have s_0 := sB
      have BA6 := B1
      obtain ⟨u0, t0, rfl, q0, d0⟩ := q0
      obtain ⟨A6, c6, rfl, _⟩ := id q0
      obtain ⟨D6, e6, rfl, _⟩ := id d0
      refine ops_store (i := 2) rfl rfl rfl rfl rfl rfl (cells := [.bool (ngB ((0 : Rat)).num), .slice A6 (digs 4294967296 ((0 : Rat)).num.natAbs).length c6, .slice D6 (digs 4294967296 ((0 : Rat)).den).length e6]) rfl BA6 rfl (by kernel_rfl) (one3 rfl rfl rfl) fun w3 hg3 BN3 => ?_
      replace q0 := off q0 BA6 no_ints3 hg3
      replace d0 := off d0 BA6 no_ints3 hg3
      replace BR0 := BR0.grown hg3 (by omega)
      replace bb := bb.trans ((Below.refl _ _).grown hg3 bb.size (fun g hg => by injection hg with hg; omega))
      have hsz3 := bb.size
      have B6 : Blk w3 (g9_1) _ _ := BN3
      have k6s := q0
      have k6d := d0
      have k6z : IsZ w3 (.agg #[.bool (ngB ((0 : Rat)).num), .slice A6 (digs 4294967296 ((0 : Rat)).num.natAbs).length c6]) (((0 : Rat)).num) := ⟨_, rfl, k6s⟩
      have k6 : IsQ w3 (.agg #[.bool (ngB ((0 : Rat)).num), .slice A6 (digs 4294967296 ((0 : Rat)).num.natAbs).length c6, .slice D6 (digs 4294967296 ((0 : Rat)).den).length e6]) ((0 : Rat)) := ⟨_, _, rfl, k6s, k6d⟩
      refine ops_done ?_
      go_wp2
      go_loopw [18] (fun v18 wr => ∃ k : Nat, k ≤ p.length ∧ HoldQ wr g9_1 (sumq ((prods p q).take k)) ∧ Blk wr w.heap.size 36 #[.bool false, .slice none 0 0, .slice none 0 0] ∧ Below w.heap.size w wr ∧ g9_1 < wr.heap.size ∧ v18 = .int .i64 (k : Int)) (fun v18 _ => p.length - (intOf v18).toNat)
      case atStart => exact ⟨0, by omega, ⟨_, _, B6, k6s, k6d⟩, BR0, bb, B6.lt, rfl⟩
      case round =>
        obtain ⟨k, hk, hH, hR, hbw, hGl, rfl⟩ := hrel
        clear B6 k6s k6d k6z k6 BR0 bb
        have BR0 := hR
        have bb := hbw
        obtain ⟨s, hs⟩ : ∃ s, s = sumq ((prods p q).take k) := ⟨_, rfl⟩
        rw [← hs] at hH
        have HS := Lib.hid hs
        clear hs hR hbw
        have ls : lenQ s 900 := by
          rw [HS.out]
          refine (lenQ_sumq (fun x hx => lenQ_prods2 HLE.out.2.1 HLE.out.2.2.1 x (List.mem_of_mem_take hx))).mono ?_
          refine Nat.le_trans (Nat.add_le_add_right (Nat.mul_le_mul_left _ ?_) _) HLE.out.2.2.2
          rw [List.length_take]
          omega
        obtain ⟨u6, t6, B6, k6s, k6d⟩ := hH
        obtain ⟨A6, c6, rfl, _⟩ := id k6s
        obtain ⟨D6, e6, rfl, _⟩ := id k6d
        have k6z : IsZ wr (.agg #[.bool (ngB (s).num), .slice A6 (digs 4294967296 (s).num.natAbs).length c6]) (s).num := ⟨_, rfl, k6s⟩
        have k6 : IsQ wr (.agg #[.bool (ngB (s).num), .slice A6 (digs 4294967296 (s).num.natAbs).length c6, .slice D6 (digs 4294967296 (s).den).length e6]) (s) := ⟨_, _, rfl, k6s, k6d⟩
        have hszr := bb.size
        by_cases hlt : k < p.length
        · have hlt2 : k < q.length := by have := HE.out; omega
          obtain ⟨x, hq0_⟩ : ∃ x, p[k]? = some x := ⟨_, List.getElem?_eq_getElem hlt⟩
          obtain ⟨g0_, o0_, ue0, te0, hA0_, _, e00, e01, e02, es0, ed0⟩ := (sl0.below bb).at_ hq0_
          subst hA0_
          have HQ0 := Lib.hid hq0_
          clear hq0_
          obtain ⟨Ae0, ce0, rfl, _⟩ := id es0
          obtain ⟨De0, ee0, rfl, _⟩ := id ed0
          have ke0 : IsQ wr (.agg #[.bool (ngB x.num), .slice Ae0 (digs 4294967296 x.num.natAbs).length ce0, .slice De0 (digs 4294967296 x.den).length ee0]) x := ⟨_, _, rfl, es0, ed0⟩
          obtain ⟨y, hy⟩ : ∃ y, q[k]? = some y := ⟨_, List.getElem?_eq_getElem hlt2⟩
          have HY := Lib.hid hy
          have lx : lenQ x m := HLE.out.2.1 x (List.mem_of_getElem? HQ0.out)
          have ly : lenQ y n := HLE.out.2.2.1 y (List.mem_of_getElem? hy)
          have lxy : lenQ (x * y) (m + n) := lenQ_mul lx ly
          have hmn : m + n ≤ 900 := by
            have h1 := HLE.out.2.2.2
            have h2 := Nat.le_mul_of_pos_right (m + n + 1) (show 0 < p.length by omega)
            omega
          clear hy
          have hneq : q ≠ [] := List.length_pos_iff.1 (by omega)
          have sB := bb.size
          go_upto_region 6 with (fail)
          have lt4_4 := Blk.lt BR0
          have lt4_6 := Blk.lt B6
          refine flowp 5 [Pd.eq (.int .i64 (k : Int)), Pd.eq (.pointer (some ⟨g0_, o0_ + k * 3, none⟩)), Pd.eq (.agg #[.bool (ngB x.num), .slice Ae0 (digs 4294967296 x.num.natAbs).length ce0, .slice De0 (digs 4294967296 x.den).length ee0]), pn 36 #[.bool false, .slice none 0 0, .slice none 0 0] wr.heap.size, Pd.eq (.int .i64 (k : Int))] (by kernel_rfl) ?ob10 ?done10
          case ob10 =>
            refine And.intro (ob_move rfl (wt_none rfl) (ev_far rfl rfl) (fun _ _ h => h)) ?_
            refine And.intro (ob_indexAddr rfl (wt_none rfl) (ev_far rfl rfl) (ev_far rfl rfl) (fun _ _ _ hx hy => ⟨_, by rw [hx, hy]; exact index3 Tryz.underlying53 (by kernel_rfl) hlt _, rfl⟩)) ?_
            refine And.intro (ob_load rfl (wt_none rfl) (ev_dep (j := 1) (by kernel_rfl) rfl rfl) (fun w2 hb => load3 Tryz.underlying36 rfl (by kernel_rfl) ((hb.cell (World.block_lt_of_cell? wr _ e00)).trans e00) ((hb.cell (World.block_lt_of_cell? wr _ e01)).trans e01) ((hb.cell (World.block_lt_of_cell? wr _ e02)).trans e02)) (fun _ _ => rfl)) ?_
            refine And.intro (ob_alloc (z := .agg #[.bool false, .slice none 0 0, .slice none 0 0]) rfl rfl (fun _ => by kernel_rfl) (fun _ _ hB h => ⟨_, rfl, hB, h⟩)) ?_
            refine And.intro (ob_assign rfl (wt_none rfl) (ev_dep (j := 0) (by kernel_rfl) rfl rfl) (fun _ _ h => h)) ?_
            trivial
          case done10 =>
            refine fun w5 hb5 v0 h0 v1 h1 v2 h2 v3 h3 d3 v4 h4 b hbf => ?_
            obtain rfl := h0; obtain rfl := h1; obtain rfl := h2; obtain rfl := h4
            obtain ⟨g10_3, rfl, hg3, B3⟩ := h3
            simp only [Act.put, List.setIfInBounds_toArray, List.set_cons_zero, List.set_cons_succ] at hbf
            subst hbf
            replace BR0 := BR0.below hb5
            replace B6 := B6.below hb5
            replace k6s := k6s.below hb5
            replace k6d := k6d.below hb5
            replace k6z := k6z.below hb5
            replace k6 := k6.below hb5
            replace es0 := es0.below hb5
            replace ed0 := ed0.below hb5
            replace bb := bb.trans (hb5.mono bb.size)
            have hsz5 := bb.size
            have BA8 := B3
            have q2 := es0
            have d2 := ed0
            refine ops_store (i := 5) rfl rfl rfl rfl rfl rfl (cells := [.bool (ngB (x).num), .slice Ae0 (digs 4294967296 (x).num.natAbs).length ce0, .slice De0 (digs 4294967296 (x).den).length ee0]) rfl BA8 rfl (by kernel_rfl) (one3 rfl rfl rfl) fun w6 hg6 BN6 => ?_
            replace q2 := off q2 BA8 no_ints3 hg6
            replace d2 := off d2 BA8 no_ints3 hg6
            replace BR0 := BR0.grown hg6 (by omega)
            replace k6s := off k6s BA8 no_ints3 hg6
            replace k6d := off k6d BA8 no_ints3 hg6
            replace k6z : IsZ w6 (.agg #[.bool (ngB (s).num), .slice A6 (digs 4294967296 (s).num.natAbs).length c6]) ((s).num) := ⟨_, rfl, k6s⟩
            replace k6 : IsQ w6 (.agg #[.bool (ngB (s).num), .slice A6 (digs 4294967296 (s).num.natAbs).length c6, .slice D6 (digs 4294967296 (s).den).length e6]) (s) := ⟨_, _, rfl, k6s, k6d⟩
            replace B6 := B6.grown hg6 (by omega)
            replace bb := bb.trans ((Below.refl _ _).grown hg6 bb.size (fun g hg => by injection hg with hg; omega))
            have hsz6 := bb.size
            have Be0 : Blk w6 (g10_3) _ _ := BN6
            have ke0s := q2
            have ke0d := d2
            have ke0z : IsZ w6 (.agg #[.bool (ngB (x).num), .slice Ae0 (digs 4294967296 (x).num.natAbs).length ce0]) ((x).num) := ⟨_, rfl, ke0s⟩
            have ke0 : IsQ w6 (.agg #[.bool (ngB (x).num), .slice Ae0 (digs 4294967296 (x).num.natAbs).length ce0, .slice De0 (digs 4294967296 (x).den).length ee0]) (x) := ⟨_, _, rfl, ke0s, ke0d⟩
            refine ops_done ?_
            obtain ⟨g1_, o1_, cp1_, hA1_, _, _, _⟩ := sl1.place hneq
            injection hA1_ with e1_ _ e3_
            subst e1_
            subst e3_
            obtain ⟨uy, ty, hlty, zy0, zy1, zy2, zys, zyd⟩ := (sl1.below bb).at2 HY.out
            obtain ⟨Ay, cy, rfl, _⟩ := id zys
            obtain ⟨Dy, ey, rfl, _⟩ := id zyd
            have zy : IsQ w6 (.agg #[.bool (ngB (y).num), .slice Ay (digs 4294967296 (y).num.natAbs).length cy, .slice Dy (digs 4294967296 (y).den).length ey]) (y) := ⟨_, _, rfl, zys, zyd⟩
            by_cases hv : x * y = 0
            · have HV : Hid (true = decide (x * y = 0)) := (decide_eq_true hv).symm
              have HN : Hid (s = sumq ((prods p q).take (k + 1))) := by show _ = _; rw [take_snoc (show (prods p q)[k]? = some (x * y) from zip_at HQ0.out HY.out), sumq_snoc, hv, Rat.add_zero, HS.out]
              clear hv
              have sB := bb.size
              go_upto_region 7 with (fail)
              refine flow 7 [Pd.eq (.agg #[.bool (ngB (x).num), .slice Ae0 (digs 4294967296 (x).num.natAbs).length ce0, .slice De0 (digs 4294967296 (x).den).length ee0]), Pd.eq (.slice (some ⟨g1_, o1_, none⟩) q.length c1), Pd.eq (.int .i64 (k : Int)), Pd.eq (.pointer (some ⟨g1_, o1_ + k * 3, none⟩)), Pd.eq (.agg #[.bool (ngB (y).num), .slice Ay (digs 4294967296 (y).num.natAbs).length cy, .slice Dy (digs 4294967296 (y).den).length ey]), Pd.eq (.bool true), Pd.eq (.bool false)] (by kernel_rfl) (by kernel_rfl) ?ob11 ?done11
              case ob11 =>
                refine And.intro (ob_load rfl (wt_none rfl) (ev_far rfl rfl) (fun w2 hb => run_loadAll Tryz.underlying36 rfl (by kernel_rfl) (Be0.drew.below hb)) (fun _ _ => rfl)) ?_
                refine And.intro (ob_move rfl (wt_none rfl) (ev_far rfl rfl) (fun _ _ h => h)) ?_
                refine And.intro (ob_move rfl (wt_none rfl) (ev_far rfl rfl) (fun _ _ h => h)) ?_
                refine And.intro (ob_indexAddr rfl (wt_none rfl) (ev_dep (j := 1) (by kernel_rfl) rfl rfl) (ev_dep (j := 2) (by kernel_rfl) rfl rfl) (fun _ _ _ hx hy => ⟨_, by rw [hx, hy]; exact index3 (k := k) Tryz.underlying53 (by kernel_rfl) hlty _, rfl⟩)) ?_
                refine And.intro (ob_load rfl (wt_none rfl) (ev_dep (j := 3) (by kernel_rfl) rfl rfl) (fun w2 hb => load3 Tryz.underlying36 rfl (by kernel_rfl) ((hb.cell (World.block_lt_of_cell? w6 _ zy0)).trans zy0) ((hb.cell (World.block_lt_of_cell? w6 _ zy1)).trans zy1) ((hb.cell (World.block_lt_of_cell? w6 _ zy2)).trans zy2)) (fun _ _ => rfl)) ?_
                refine And.intro (ob_call2 rfl Tryz.func118 (by kernel_rfl) (wt_none rfl) (ev_dep (j := 0) (by kernel_rfl) rfl rfl) (ev_dep (j := 4) (by kernel_rfl) rfl rfl) (fun w2 u0 u1 hb h0 h1 => by obtain rfl := h0; obtain rfl := h1; exact (vanishes_any _ _ (x) (y) true _ (ke0.drew.below hb) (zy.drew.below hb) HV.out).mono fun e w3 h => RetV.pd h)) ?_
                refine And.intro (ob_un rfl (wt_none rfl) (ev_dep (j := 5) (by kernel_rfl) rfl rfl) (fun _ => un_not _ _) (fun _ => rfl)) ?_
                trivial
              case done11 =>
                refine fun w8 hb8 v0 h0 v1 h1 v2 h2 v3 h3 v4 h4 v5 h5 v6 h6 b hbf => ?_
                obtain rfl := h0; obtain rfl := h1; obtain rfl := h2; obtain rfl := h3; obtain rfl := h4; obtain rfl := h5; obtain rfl := h6
                simp only [Act.put, List.setIfInBounds_toArray, List.set_cons_zero, List.set_cons_succ] at hbf
                subst hbf
                replace BR0 := BR0.below hb8
                replace B6 := B6.below hb8
                replace k6s := k6s.below hb8
                replace k6d := k6d.below hb8
                replace k6z := k6z.below hb8
                replace k6 := k6.below hb8
                replace Be0 := Be0.below hb8
                replace ke0s := ke0s.below hb8
                replace ke0d := ke0d.below hb8
                replace ke0z := ke0z.below hb8
                replace ke0 := ke0.below hb8
                replace bb := bb.trans (hb8.mono bb.size)
                have hsz8 := bb.size
                refine any_done (by kernel_rfl) ?_
                have hsk : p.length - (k + 1) < p.length - k := by omega
                go_wp2
                go_roundw
                case rel => exact ⟨k + 1, by omega, by rw [← HN.out]; exact ⟨_, _, B6, k6s, k6d⟩, BR0, bb, B6.lt, by go_num⟩
                case measure => simp [intOf]; omega
            · have HV : Hid (false = decide (x * y = 0)) := (decide_eq_false hv).symm
              clear hv
              have sB := bb.size
              go_upto_region 7 with (fail)
              refine flow 7 [Pd.eq (.agg #[.bool (ngB (x).num), .slice Ae0 (digs 4294967296 (x).num.natAbs).length ce0, .slice De0 (digs 4294967296 (x).den).length ee0]), Pd.eq (.slice (some ⟨g1_, o1_, none⟩) q.length c1), Pd.eq (.int .i64 (k : Int)), Pd.eq (.pointer (some ⟨g1_, o1_ + k * 3, none⟩)), Pd.eq (.agg #[.bool (ngB (y).num), .slice Ay (digs 4294967296 (y).num.natAbs).length cy, .slice Dy (digs 4294967296 (y).den).length ey]), Pd.eq (.bool false), Pd.eq (.bool true)] (by kernel_rfl) (by kernel_rfl) ?ob12 ?done12
              case ob12 =>
                refine And.intro (ob_load rfl (wt_none rfl) (ev_far rfl rfl) (fun w2 hb => run_loadAll Tryz.underlying36 rfl (by kernel_rfl) (Be0.drew.below hb)) (fun _ _ => rfl)) ?_
                refine And.intro (ob_move rfl (wt_none rfl) (ev_far rfl rfl) (fun _ _ h => h)) ?_
                refine And.intro (ob_move rfl (wt_none rfl) (ev_far rfl rfl) (fun _ _ h => h)) ?_
                refine And.intro (ob_indexAddr rfl (wt_none rfl) (ev_dep (j := 1) (by kernel_rfl) rfl rfl) (ev_dep (j := 2) (by kernel_rfl) rfl rfl) (fun _ _ _ hx hy => ⟨_, by rw [hx, hy]; exact index3 (k := k) Tryz.underlying53 (by kernel_rfl) hlty _, rfl⟩)) ?_
                refine And.intro (ob_load rfl (wt_none rfl) (ev_dep (j := 3) (by kernel_rfl) rfl rfl) (fun w2 hb => load3 Tryz.underlying36 rfl (by kernel_rfl) ((hb.cell (World.block_lt_of_cell? w6 _ zy0)).trans zy0) ((hb.cell (World.block_lt_of_cell? w6 _ zy1)).trans zy1) ((hb.cell (World.block_lt_of_cell? w6 _ zy2)).trans zy2)) (fun _ _ => rfl)) ?_
                refine And.intro (ob_call2 rfl Tryz.func118 (by kernel_rfl) (wt_none rfl) (ev_dep (j := 0) (by kernel_rfl) rfl rfl) (ev_dep (j := 4) (by kernel_rfl) rfl rfl) (fun w2 u0 u1 hb h0 h1 => by obtain rfl := h0; obtain rfl := h1; exact (vanishes_any _ _ (x) (y) false _ (ke0.drew.below hb) (zy.drew.below hb) HV.out).mono fun e w3 h => RetV.pd h)) ?_
                refine And.intro (ob_un rfl (wt_none rfl) (ev_dep (j := 5) (by kernel_rfl) rfl rfl) (fun _ => un_not _ _) (fun _ => rfl)) ?_
                trivial
              case done12 =>
                refine fun w8 hb8 v0 h0 v1 h1 v2 h2 v3 h3 v4 h4 v5 h5 v6 h6 b hbf => ?_
                obtain rfl := h0; obtain rfl := h1; obtain rfl := h2; obtain rfl := h3; obtain rfl := h4; obtain rfl := h5; obtain rfl := h6
                simp only [Act.put, List.setIfInBounds_toArray, List.set_cons_zero, List.set_cons_succ] at hbf
                subst hbf
                replace BR0 := BR0.below hb8
                replace B6 := B6.below hb8
                replace k6s := k6s.below hb8
                replace k6d := k6d.below hb8
                replace k6z := k6z.below hb8
                replace k6 := k6.below hb8
                replace Be0 := Be0.below hb8
                replace ke0s := ke0s.below hb8
                replace ke0d := ke0d.below hb8
                replace ke0z := ke0z.below hb8
                replace ke0 := ke0.below hb8
                replace bb := bb.trans (hb8.mono bb.size)
                have hsz8 := bb.size
                refine any_done (by kernel_rfl) ?_
                clear zy zy0 zy1 zy2 zys zyd
                obtain ⟨ub, tb, hltb, zb0, zb1, zb2, zbs, zbd⟩ := (sl1.below bb).at2 HY.out
                obtain ⟨Ab, cb, rfl, _⟩ := id zbs
                obtain ⟨Db, eb, rfl, _⟩ := id zbd
                have zb : IsQ w8 (.agg #[.bool (ngB (y).num), .slice Ab (digs 4294967296 (y).num.natAbs).length cb, .slice Db (digs 4294967296 (y).den).length eb]) (y) := ⟨_, _, rfl, zbs, zbd⟩
                have sB := bb.size
                go_upto_region 8 with (fail)
                refine flow 8 [Pd.eq (.agg #[.bool (ngB (s).num), .slice A6 (digs 4294967296 (s).num.natAbs).length c6, .slice D6 (digs 4294967296 (s).den).length e6]), Pd.eq (.agg #[.bool (ngB (x).num), .slice Ae0 (digs 4294967296 (x).num.natAbs).length ce0, .slice De0 (digs 4294967296 (x).den).length ee0]), Pd.eq (.slice (some ⟨g1_, o1_, none⟩) q.length c1), Pd.eq (.int .i64 (k : Int)), Pd.eq (.pointer (some ⟨g1_, o1_ + k * 3, none⟩)), Pd.eq (.agg #[.bool (ngB (y).num), .slice Ab (digs 4294967296 (y).num.natAbs).length cb, .slice Db (digs 4294967296 (y).den).length eb]), pqn (x * y), pq ((s + x * y)) w8.heap.size] (by kernel_rfl) (by kernel_rfl) ?ob13 ?done13
                case ob13 =>
                  refine And.intro (ob_load rfl (wt_none rfl) (ev_far rfl rfl) (fun w2 hb => run_loadAll Tryz.underlying36 rfl (by kernel_rfl) (B6.drew.below hb)) (fun _ _ => rfl)) ?_
                  refine And.intro (ob_load rfl (wt_none rfl) (ev_far rfl rfl) (fun w2 hb => run_loadAll Tryz.underlying36 rfl (by kernel_rfl) (Be0.drew.below hb)) (fun _ _ => rfl)) ?_
                  refine And.intro (ob_move rfl (wt_none rfl) (ev_far rfl rfl) (fun _ _ h => h)) ?_
                  refine And.intro (ob_move rfl (wt_none rfl) (ev_far rfl rfl) (fun _ _ h => h)) ?_
                  refine And.intro (ob_indexAddr rfl (wt_none rfl) (ev_dep (j := 2) (by kernel_rfl) rfl rfl) (ev_dep (j := 3) (by kernel_rfl) rfl rfl) (fun _ _ _ hx hy => ⟨_, by rw [hx, hy]; exact index3 (k := k) Tryz.underlying53 (by kernel_rfl) hltb _, rfl⟩)) ?_
                  refine And.intro (ob_load rfl (wt_none rfl) (ev_dep (j := 4) (by kernel_rfl) rfl rfl) (fun w2 hb => load3 Tryz.underlying36 rfl (by kernel_rfl) ((hb.cell (World.block_lt_of_cell? w8 _ zb0)).trans zb0) ((hb.cell (World.block_lt_of_cell? w8 _ zb1)).trans zb1) ((hb.cell (World.block_lt_of_cell? w8 _ zb2)).trans zb2)) (fun _ _ => rfl)) ?_
                  refine And.intro (ob_call2 rfl Tryz.func119 (by kernel_rfl) (wt_none rfl) (ev_dep (j := 1) (by kernel_rfl) rfl rfl) (ev_dep (j := 5) (by kernel_rfl) rfl rfl) (fun w2 u0 u1 hb h0 h1 => by obtain rfl := h0; obtain rfl := h1; exact (mul8_any _ x _ y _ (ke0.drew.below hb) (zb.drew.below hb) (lx.mono (by omega)) (ly.mono (by omega))).mono fun e w3 h => RetQn.pd h.n)) ?_
                  refine And.intro (ob_call2 rfl Tryz.func46 (by kernel_rfl) (wt_none rfl) (ev_dep (j := 0) (by kernel_rfl) rfl rfl) (ev_dep (j := 6) (by kernel_rfl) rfl rfl) (fun w2 u0 u1 hb h0 h1 => by obtain rfl := h0; exact (add8_any _ s _ (x * y) _ (k6.drew.below hb) h1 (ls.mono (by decide)) (lxy.mono (by omega))).mono fun e w3 h => RetQ.pd h hb.size)) ?_
                  trivial
                case done13 =>
                  refine fun w9 hb9 v0 h0 v1 h1 v2 h2 v3 h3 v4 h4 v5 h5 v6 h6 v7 h7 b hbf => ?_
                  obtain rfl := h0; obtain rfl := h1; obtain rfl := h2; obtain rfl := h3; obtain rfl := h4; obtain rfl := h5
                  have q6 := h6
                  obtain ⟨q7, f7⟩ := h7
                  simp only [Act.put, List.setIfInBounds_toArray, List.set_cons_zero, List.set_cons_succ] at hbf
                  subst hbf
                  replace BR0 := BR0.below hb9
                  replace B6 := B6.below hb9
                  replace k6s := k6s.below hb9
                  replace k6d := k6d.below hb9
                  replace k6z := k6z.below hb9
                  replace k6 := k6.below hb9
                  replace Be0 := Be0.below hb9
                  replace ke0s := ke0s.below hb9
                  replace ke0d := ke0d.below hb9
                  replace ke0z := ke0z.below hb9
                  replace ke0 := ke0.below hb9
                  replace bb := bb.trans (hb9.mono bb.size)
                  have hsz9 := bb.size
                  have s_7 := sB
                  obtain ⟨u7, t7, rfl, q7, d7⟩ := q7
                  obtain ⟨A4, c4, rfl, _⟩ := id q7
                  obtain ⟨D4, e4, rfl, _⟩ := id d7
                  refine any_store (i := 8) (by kernel_rfl) rfl rfl rfl rfl rfl rfl (cells := [.bool (ngB ((s + x * y)).num), .slice A4 (digs 4294967296 ((s + x * y)).num.natAbs).length c4, .slice D4 (digs 4294967296 ((s + x * y)).den).length e4]) rfl B6 rfl (by kernel_rfl) (one3 rfl rfl rfl) fun w10 hg10 BN10 => ?_
                  replace q7 := off q7 B6 no_ints3 hg10
                  replace d7 := off d7 B6 no_ints3 hg10
                  replace BR0 := BR0.grown hg10 (by omega)
                  replace ke0s := off ke0s B6 no_ints3 hg10
                  replace ke0d := off ke0d B6 no_ints3 hg10
                  replace ke0z : IsZ w10 (.agg #[.bool (ngB (x).num), .slice Ae0 (digs 4294967296 (x).num.natAbs).length ce0]) ((x).num) := ⟨_, rfl, ke0s⟩
                  replace ke0 : IsQ w10 (.agg #[.bool (ngB (x).num), .slice Ae0 (digs 4294967296 (x).num.natAbs).length ce0, .slice De0 (digs 4294967296 (x).den).length ee0]) (x) := ⟨_, _, rfl, ke0s, ke0d⟩
                  replace Be0 := Be0.grown hg10 (by omega)
                  replace bb := bb.trans ((Below.refl _ _).grown hg10 bb.size (fun g hg => by injection hg with hg; omega))
                  have hsz10 := bb.size
                  have B4 : Blk w10 (g9_1) _ _ := BN10
                  have k4s := q7
                  have k4d := d7
                  have k4z : IsZ w10 (.agg #[.bool (ngB ((s + x * y)).num), .slice A4 (digs 4294967296 ((s + x * y)).num.natAbs).length c4]) (((s + x * y)).num) := ⟨_, rfl, k4s⟩
                  have k4 : IsQ w10 (.agg #[.bool (ngB ((s + x * y)).num), .slice A4 (digs 4294967296 ((s + x * y)).num.natAbs).length c4, .slice D4 (digs 4294967296 ((s + x * y)).den).length e4]) ((s + x * y)) := ⟨_, _, rfl, k4s, k4d⟩
                  refine any_done (by kernel_rfl) ?_
                  have HN : Hid (s + x * y = sumq ((prods p q).take (k + 1))) := by show _ = _; rw [take_snoc (show (prods p q)[k]? = some (x * y) from zip_at HQ0.out HY.out), sumq_snoc, HS.out]
                  have hsk : p.length - (k + 1) < p.length - k := by omega
                  go_wp2
                  go_roundw
                  case rel => exact ⟨k + 1, by omega, by rw [← HN.out]; exact ⟨_, _, B4, k4s, k4d⟩, BR0, bb, B4.lt, by go_num⟩
                  case measure => simp [intOf]; omega
        · have HN : Hid (s = dotq p q) := by show _ = _; rw [HS.out, List.take_of_length_le (by rw [show (prods p q).length = p.length from zip_len HE.out]; omega)]; rfl
          have sB := bb.size
          go_upto_region 10 with (fail)
          refine flowp 1 [Pd.eq (.agg #[.bool (ngB (s).num), .slice A6 (digs 4294967296 (s).num.natAbs).length c6, .slice D6 (digs 4294967296 (s).den).length e6])] (by kernel_rfl) ?ob14 ?done14
          case ob14 =>
            refine And.intro (ob_load rfl (wt_none rfl) (ev_far rfl rfl) (fun w2 hb => run_loadAll Tryz.underlying36 rfl (by kernel_rfl) (B6.below hb)) (fun _ _ => rfl)) ?_
            trivial
          case done14 =>
            refine fun w5 hb5 v0 h0 b hbf => ?_
            obtain rfl := h0
            simp only [Act.put, List.setIfInBounds_toArray, List.set_cons_zero, List.set_cons_succ] at hbf
            subst hbf
            replace BR0 := BR0.below hb5
            replace B6 := B6.below hb5
            replace k6s := k6s.below hb5
            replace k6d := k6d.below hb5
            replace k6z := k6z.below hb5
            replace k6 := k6.below hb5
            replace bb := bb.trans (hb5.mono bb.size)
            have hsz5 := bb.size
            refine ops_store (i := 1) rfl rfl rfl rfl rfl rfl (cells := [.bool (ngB (s).num), .slice A6 (digs 4294967296 (s).num.natAbs).length c6, .slice D6 (digs 4294967296 (s).den).length e6]) rfl BR0 rfl (by kernel_rfl) (one3 rfl rfl rfl) fun w9 hg9 B9 => ?_
            have k9 := off k6s BR0 no_ints3 hg9
            have d9 := off k6d BR0 no_ints3 hg9
            have bb9 := bb.trans ((Below.refl _ _).grown hg9 bb.size (fun g hg => by injection hg with hg; omega))
            obtain ⟨C0, C1, C2, _, _, _⟩ := three B9
            refine ops_assign (i := 2) (.int .i64 0) rfl rfl rfl rfl rfl fun b hbf => ?_
            simp only [Act.put, List.setIfInBounds_toArray, List.set_cons_zero, List.set_cons_succ] at hbf
            subst hbf
            refine ops_done ?_
            go_wp2
            rw [← HN.out]
            exact bodyPost_ret (v := .tuple #[.agg #[.bool (ngB (s).num), .slice A6 (digs 4294967296 (s).num.natAbs).length c6, .slice D6 (digs 4294967296 (s).den).length e6], .int .i64 0]) (by simp [results, Tryz.results99, go_sem, C0, C1, C2]) rfl ⟨_, rfl, ⟨_, _, rfl, k9, d9⟩, bb9⟩
set_option maxHeartbeats 3200000 in
set_option maxRecDepth 100000 in
theorem eqf_any (a0 a1 : Value) (p q : List Rat) (b : Bool) (w : World) (h0 : SlF .u64 4294967296 w a0 p) (h1 : SlF .u64 4294967296 w a1 q) (hb : b = decide (p = q)) :
    Calls Tryz.prog 100 #[a0, a1, .func (.func 52) #[] #[]] w (RetV (.bool b) w) := by
  have bb : Below w.heap.size w w := Below.refl _ _
  have sl0 := h0
  obtain ⟨A0, c0, rfl, hc0, hm0⟩ := h0.shape
  unfold maxLen at hm0
  have sl1 := h1
  obtain ⟨A1, c1, rfl, hc1, hm1⟩ := h1.shape
  unfold maxLen at hm1
  have HB := Lib.hid hb
  clear hb
  go_enter Tryz.func100, Tryz.ntmps100
  go_upto_region 1 with (fail)
  have hsz0 := bb.size
  by_cases he : p.length = q.length
  · have HNE : Hid ((((p.length : Nat) : Int) != ((q.length : Nat) : Int)) = false) := by show _ = _; rw [bne_eq_false_iff_eq]; omega
    have HE := Lib.hid he
    clear he
    have sB := bb.size
    refine flowp 5 [Pd.eq (.slice A0 p.length c0), Pd.eq (.int .i64 ((p.length : Nat) : Int)), Pd.eq (.slice A1 q.length c1), Pd.eq (.int .i64 ((q.length : Nat) : Int)), Pd.eq (.bool false)] (by kernel_rfl) ?ob11 ?done11
    case ob11 =>
      refine And.intro (ob_move rfl (wt_none rfl) (ev_far rfl rfl) (fun _ _ h => h)) ?_
      refine And.intro (ob_len rfl (wt_none rfl) (ev_dep (j := 0) (by kernel_rfl) rfl rfl) (fun _ _ hx => ⟨_, by rw [hx]; exact len_slice Tryz.underlying53 _ _ _ _, rfl⟩)) ?_
      refine And.intro (ob_move rfl (wt_none rfl) (ev_far rfl rfl) (fun _ _ h => h)) ?_
      refine And.intro (ob_len rfl (wt_none rfl) (ev_dep (j := 2) (by kernel_rfl) rfl rfl) (fun _ _ hx => ⟨_, by rw [hx]; exact len_slice Tryz.underlying53 _ _ _ _, rfl⟩)) ?_
      refine And.intro (ob_bin rfl (wt_none rfl) (ev_dep (j := 1) (by kernel_rfl) rfl rfl) (ev_dep (j := 3) (by kernel_rfl) rfl rfl) (fun _ _ _ hx hy => ⟨.bool false, by rw [hx, hy, bin_neq_int, HNE.out], rfl⟩)) ?_
      trivial
    case done11 =>
      refine fun w2 hb2 v0 h0 v1 h1 v2 h2 v3 h3 v4 h4 b hbf => ?_
      obtain rfl := h0; obtain rfl := h1; obtain rfl := h2; obtain rfl := h3; obtain rfl := h4
      simp only [Act.put, List.setIfInBounds_toArray, List.set_cons_zero, List.set_cons_succ] at hbf
      subst hbf
      replace bb := bb.trans (hb2.mono bb.size)
      have hsz2 := bb.size
      refine ops_done ?_
      go_wp2
      go_loopw [17] (fun v17 wr => ∃ k : Nat, k ≤ p.length ∧ Hid (p.take k = q.take k) ∧ Below w.heap.size w wr ∧ v17 = .int .i64 (k : Int)) (fun v17 _ => p.length - (intOf v17).toNat)
      case atStart => exact ⟨0, by omega, rfl, bb, rfl⟩
      case round =>
        obtain ⟨k, hk, HA, hbw, rfl⟩ := hrel
        clear bb
        have bb := hbw
        clear hbw
        have hszr := bb.size
        by_cases hlt : k < p.length
        · have hlt2 : k < q.length := by have := HE.out; omega
          have hneq : q ≠ [] := List.length_pos_iff.1 (by omega)
          obtain ⟨y, hy⟩ : ∃ y, q[k]? = some y := ⟨_, List.getElem?_eq_getElem hlt2⟩
          have HY := Lib.hid hy
          clear hy
          obtain ⟨x, hq0_⟩ : ∃ x, p[k]? = some x := ⟨_, List.getElem?_eq_getElem hlt⟩
          obtain ⟨g0_, o0_, ue0, te0, hA0_, _, e00, e01, e02, es0, ed0⟩ := (sl0.below bb).at_ hq0_
          subst hA0_
          have HQ0 := Lib.hid hq0_
          clear hq0_
          obtain ⟨Ae0, ce0, rfl, _⟩ := id es0
          obtain ⟨De0, ee0, rfl, _⟩ := id ed0
          have ke0 : IsQ wr (.agg #[.bool (ngB x.num), .slice Ae0 (digs 4294967296 x.num.natAbs).length ce0, .slice De0 (digs 4294967296 x.den).length ee0]) x := ⟨_, _, rfl, es0, ed0⟩
          have sB := bb.size
          go_upto_region 5 with (fail)
          refine flowp 5 [Pd.eq (.int .i64 (k : Int)), Pd.eq (.pointer (some ⟨g0_, o0_ + k * 3, none⟩)), Pd.eq (.agg #[.bool (ngB x.num), .slice Ae0 (digs 4294967296 x.num.natAbs).length ce0, .slice De0 (digs 4294967296 x.den).length ee0]), pn 36 #[.bool false, .slice none 0 0, .slice none 0 0] wr.heap.size, Pd.eq (.int .i64 (k : Int))] (by kernel_rfl) ?ob12 ?done12
          case ob12 =>
            refine And.intro (ob_move rfl (wt_none rfl) (ev_far rfl rfl) (fun _ _ h => h)) ?_
            refine And.intro (ob_indexAddr rfl (wt_none rfl) (ev_far rfl rfl) (ev_far rfl rfl) (fun _ _ _ hx hy => ⟨_, by rw [hx, hy]; exact index3 Tryz.underlying53 (by kernel_rfl) hlt _, rfl⟩)) ?_
            refine And.intro (ob_load rfl (wt_none rfl) (ev_dep (j := 1) (by kernel_rfl) rfl rfl) (fun w2 hb => load3 Tryz.underlying36 rfl (by kernel_rfl) ((hb.cell (World.block_lt_of_cell? wr _ e00)).trans e00) ((hb.cell (World.block_lt_of_cell? wr _ e01)).trans e01) ((hb.cell (World.block_lt_of_cell? wr _ e02)).trans e02)) (fun _ _ => rfl)) ?_
            refine And.intro (ob_alloc (z := .agg #[.bool false, .slice none 0 0, .slice none 0 0]) rfl rfl (fun _ => by kernel_rfl) (fun _ _ hB h => ⟨_, rfl, hB, h⟩)) ?_
            refine And.intro (ob_assign rfl (wt_none rfl) (ev_dep (j := 0) (by kernel_rfl) rfl rfl) (fun _ _ h => h)) ?_
            trivial
          case done12 =>
            refine fun w4 hb4 v0 h0 v1 h1 v2 h2 v3 h3 d3 v4 h4 b hbf => ?_
            obtain rfl := h0; obtain rfl := h1; obtain rfl := h2; obtain rfl := h4
            obtain ⟨g12_3, rfl, hg3, B3⟩ := h3
            simp only [Act.put, List.setIfInBounds_toArray, List.set_cons_zero, List.set_cons_succ] at hbf
            subst hbf
            replace es0 := es0.below hb4
            replace ed0 := ed0.below hb4
            replace bb := bb.trans (hb4.mono bb.size)
            have hsz4 := bb.size
            have BA8 := B3
            have q2 := es0
            have d2 := ed0
            refine ops_store (i := 5) rfl rfl rfl rfl rfl rfl (cells := [.bool (ngB (x).num), .slice Ae0 (digs 4294967296 (x).num.natAbs).length ce0, .slice De0 (digs 4294967296 (x).den).length ee0]) rfl BA8 rfl (by kernel_rfl) (one3 rfl rfl rfl) fun w5 hg5 BN5 => ?_
            replace q2 := off q2 BA8 no_ints3 hg5
            replace d2 := off d2 BA8 no_ints3 hg5
            replace bb := bb.trans ((Below.refl _ _).grown hg5 bb.size (fun g hg => by injection hg with hg; omega))
            have hsz5 := bb.size
            have Be0 : Blk w5 (g12_3) _ _ := BN5
            have ke0s := q2
            have ke0d := d2
            have ke0z : IsZ w5 (.agg #[.bool (ngB (x).num), .slice Ae0 (digs 4294967296 (x).num.natAbs).length ce0]) ((x).num) := ⟨_, rfl, ke0s⟩
            have ke0 : IsQ w5 (.agg #[.bool (ngB (x).num), .slice Ae0 (digs 4294967296 (x).num.natAbs).length ce0, .slice De0 (digs 4294967296 (x).den).length ee0]) (x) := ⟨_, _, rfl, ke0s, ke0d⟩
            refine ops_done ?_
            obtain ⟨g1_, o1_, cp1_, hA1_, _, _, _⟩ := sl1.place hneq
            injection hA1_ with e1_ _ e3_
            subst e1_
            subst e3_
            obtain ⟨uy, ty, hlty, zy0, zy1, zy2, zys, zyd⟩ := (sl1.below bb).at2 HY.out
            obtain ⟨Ay, cy, rfl, _⟩ := id zys
            obtain ⟨Dy, ey, rfl, _⟩ := id zyd
            have zy : IsQ w5 (.agg #[.bool (ngB (y).num), .slice Ay (digs 4294967296 (y).num.natAbs).length cy, .slice Dy (digs 4294967296 (y).den).length ey]) (y) := ⟨_, _, rfl, zys, zyd⟩
            have sB := bb.size
            go_upto_region 6 with (fail)
            have lt5_8 := Blk.lt Be0
            refine flowp 5 [Pd.eq (.slice (some ⟨g1_, o1_, none⟩) q.length c1), Pd.eq (.int .i64 (k : Int)), Pd.eq (.pointer (some ⟨g1_, o1_ + k * 3, none⟩)), Pd.eq (.agg #[.bool (ngB (y).num), .slice Ay (digs 4294967296 (y).num.natAbs).length cy, .slice Dy (digs 4294967296 (y).den).length ey]), pn 36 #[.bool false, .slice none 0 0, .slice none 0 0] w5.heap.size] (by kernel_rfl) ?ob13 ?done13
            case ob13 =>
              refine And.intro (ob_move rfl (wt_none rfl) (ev_far rfl rfl) (fun _ _ h => h)) ?_
              refine And.intro (ob_move rfl (wt_none rfl) (ev_far rfl rfl) (fun _ _ h => h)) ?_
              refine And.intro (ob_indexAddr rfl (wt_none rfl) (ev_dep (j := 0) (by kernel_rfl) rfl rfl) (ev_dep (j := 1) (by kernel_rfl) rfl rfl) (fun _ _ _ hx hy => ⟨_, by rw [hx, hy]; exact index3 (k := k) Tryz.underlying53 (by kernel_rfl) hlty _, rfl⟩)) ?_
              refine And.intro (ob_load rfl (wt_none rfl) (ev_dep (j := 2) (by kernel_rfl) rfl rfl) (fun w2 hb => load3 Tryz.underlying36 rfl (by kernel_rfl) ((hb.cell (World.block_lt_of_cell? w5 _ zy0)).trans zy0) ((hb.cell (World.block_lt_of_cell? w5 _ zy1)).trans zy1) ((hb.cell (World.block_lt_of_cell? w5 _ zy2)).trans zy2)) (fun _ _ => rfl)) ?_
              refine And.intro (ob_alloc (z := .agg #[.bool false, .slice none 0 0, .slice none 0 0]) rfl rfl (fun _ => by kernel_rfl) (fun _ _ hB h => ⟨_, rfl, hB, h⟩)) ?_
              trivial
            case done13 =>
              refine fun w6 hb6 v0 h0 v1 h1 v2 h2 v3 h3 v4 h4 d4 b hbf => ?_
              obtain rfl := h0; obtain rfl := h1; obtain rfl := h2; obtain rfl := h3
              obtain ⟨g13_4, rfl, hg4, B4⟩ := h4
              simp only [Act.put, List.setIfInBounds_toArray, List.set_cons_zero, List.set_cons_succ] at hbf
              subst hbf
              replace Be0 := Be0.below hb6
              replace ke0s := ke0s.below hb6
              replace ke0d := ke0d.below hb6
              replace ke0z := ke0z.below hb6
              replace ke0 := ke0.below hb6
              replace zys := zys.below hb6
              replace zyd := zyd.below hb6
              replace bb := bb.trans (hb6.mono bb.size)
              have hsz6 := bb.size
              have BA9 := B4
              have q3 := zys
              have d3 := zyd
              refine ops_store (i := 5) rfl rfl rfl rfl rfl rfl (cells := [.bool (ngB (y).num), .slice Ay (digs 4294967296 (y).num.natAbs).length cy, .slice Dy (digs 4294967296 (y).den).length ey]) rfl BA9 rfl (by kernel_rfl) (one3 rfl rfl rfl) fun w7 hg7 BN7 => ?_
              replace q3 := off q3 BA9 no_ints3 hg7
              replace d3 := off d3 BA9 no_ints3 hg7
              replace ke0s := off ke0s BA9 no_ints3 hg7
              replace ke0d := off ke0d BA9 no_ints3 hg7
              replace ke0z : IsZ w7 (.agg #[.bool (ngB (x).num), .slice Ae0 (digs 4294967296 (x).num.natAbs).length ce0]) ((x).num) := ⟨_, rfl, ke0s⟩
              replace ke0 : IsQ w7 (.agg #[.bool (ngB (x).num), .slice Ae0 (digs 4294967296 (x).num.natAbs).length ce0, .slice De0 (digs 4294967296 (x).den).length ee0]) (x) := ⟨_, _, rfl, ke0s, ke0d⟩
              replace Be0 := Be0.grown hg7 (by omega)
              replace bb := bb.trans ((Below.refl _ _).grown hg7 bb.size (fun g hg => by injection hg with hg; omega))
              have hsz7 := bb.size
              have By : Blk w7 (g13_4) _ _ := BN7
              have kys := q3
              have kyd := d3
              have kyz : IsZ w7 (.agg #[.bool (ngB (y).num), .slice Ay (digs 4294967296 (y).num.natAbs).length cy]) ((y).num) := ⟨_, rfl, kys⟩
              have ky : IsQ w7 (.agg #[.bool (ngB (y).num), .slice Ay (digs 4294967296 (y).num.natAbs).length cy, .slice Dy (digs 4294967296 (y).den).length ey]) (y) := ⟨_, _, rfl, kys, kyd⟩
              refine ops_done ?_
              obtain ⟨u, hu⟩ : ∃ u, u = decide (x = y) := ⟨_, rfl⟩
              have HU := Lib.hid hu
              by_cases hxy : x = y
              · have HA2 : Hid (p.take (k + 1) = q.take (k + 1)) := by show _ = _; rw [take_snoc HQ0.out, take_snoc HY.out, HA.out, hxy]
                rw [decide_eq_true hxy] at hu
                subst hu
                clear hxy
                have sB := bb.size
                go_upto_region 7 with (fail)
                refine flowp 5 [Pd.eq (.func (.func 52) #[] #[]), Pd.eq (.agg #[.bool (ngB (x).num), .slice Ae0 (digs 4294967296 (x).num.natAbs).length ce0, .slice De0 (digs 4294967296 (x).den).length ee0]), Pd.eq (.agg #[.bool (ngB (y).num), .slice Ay (digs 4294967296 (y).num.natAbs).length cy, .slice Dy (digs 4294967296 (y).den).length ey]), Pd.eq (.bool true), Pd.eq (.bool false)] (by kernel_rfl) ?ob14 ?done14
                case ob14 =>
                  refine And.intro (ob_move rfl (wt_none rfl) (ev_far rfl rfl) (fun _ _ h => h)) ?_
                  refine And.intro (ob_load rfl (wt_none rfl) (ev_far rfl rfl) (fun w2 hb => run_loadAll Tryz.underlying36 rfl (by kernel_rfl) (Be0.below hb)) (fun _ _ => rfl)) ?_
                  refine And.intro (ob_load rfl (wt_none rfl) (ev_far rfl rfl) (fun w2 hb => run_loadAll Tryz.underlying36 rfl (by kernel_rfl) (By.below hb)) (fun _ _ => rfl)) ?_
                  refine And.intro (ob_callv2 rfl (ev_dep (j := 0) (by kernel_rfl) rfl rfl) Tryz.func52 (by kernel_rfl) (wt_none rfl) (ev_dep (j := 1) (by kernel_rfl) rfl rfl) (ev_dep (j := 2) (by kernel_rfl) rfl rfl) (fun w2 u0 u1 hb h0 h1 => by obtain rfl := h0; obtain rfl := h1; exact (same8_any _ _ x y true _ (ke0.below hb) (ky.below hb) HU.out).mono fun e w3 h => RetV.pd h)) ?_
                  refine And.intro (ob_un rfl (wt_none rfl) (ev_dep (j := 3) (by kernel_rfl) rfl rfl) (fun _ => un_not _ _) (fun _ => rfl)) ?_
                  trivial
                case done14 =>
                  refine fun w9 hb9 v0 h0 v1 h1 v2 h2 v3 h3 v4 h4 b hbf => ?_
                  obtain rfl := h0; obtain rfl := h1; obtain rfl := h2; obtain rfl := h3; obtain rfl := h4
                  simp only [Act.put, List.setIfInBounds_toArray, List.set_cons_zero, List.set_cons_succ] at hbf
                  subst hbf
                  replace Be0 := Be0.below hb9
                  replace ke0s := ke0s.below hb9
                  replace ke0d := ke0d.below hb9
                  replace ke0z := ke0z.below hb9
                  replace ke0 := ke0.below hb9
                  replace By := By.below hb9
                  replace kys := kys.below hb9
                  replace kyd := kyd.below hb9
                  replace kyz := kyz.below hb9
                  replace ky := ky.below hb9
                  replace bb := bb.trans (hb9.mono bb.size)
                  have hsz9 := bb.size
                  refine ops_done ?_
                  have hsk : p.length - (k + 1) < p.length - k := by omega
                  go_wp2
                  go_roundw
                  case rel => exact ⟨k + 1, by omega, HA2, bb, by go_num⟩
                  case measure => simp [intOf]; omega
              · have HW : Hid (b = false) := by
                  show _ = _
                  rw [HB.out]
                  refine decide_eq_false fun e => ?_
                  have h0 := HQ0.out
                  rw [e, HY.out] at h0
                  exact hxy (Option.some.inj h0).symm
                rw [decide_eq_false hxy] at hu
                subst hu
                clear hxy
                have sB := bb.size
                go_upto_region 7 with (fail)
                refine flowp 5 [Pd.eq (.func (.func 52) #[] #[]), Pd.eq (.agg #[.bool (ngB (x).num), .slice Ae0 (digs 4294967296 (x).num.natAbs).length ce0, .slice De0 (digs 4294967296 (x).den).length ee0]), Pd.eq (.agg #[.bool (ngB (y).num), .slice Ay (digs 4294967296 (y).num.natAbs).length cy, .slice Dy (digs 4294967296 (y).den).length ey]), Pd.eq (.bool false), Pd.eq (.bool true)] (by kernel_rfl) ?ob15 ?done15
                case ob15 =>
                  refine And.intro (ob_move rfl (wt_none rfl) (ev_far rfl rfl) (fun _ _ h => h)) ?_
                  refine And.intro (ob_load rfl (wt_none rfl) (ev_far rfl rfl) (fun w2 hb => run_loadAll Tryz.underlying36 rfl (by kernel_rfl) (Be0.below hb)) (fun _ _ => rfl)) ?_
                  refine And.intro (ob_load rfl (wt_none rfl) (ev_far rfl rfl) (fun w2 hb => run_loadAll Tryz.underlying36 rfl (by kernel_rfl) (By.below hb)) (fun _ _ => rfl)) ?_
                  refine And.intro (ob_callv2 rfl (ev_dep (j := 0) (by kernel_rfl) rfl rfl) Tryz.func52 (by kernel_rfl) (wt_none rfl) (ev_dep (j := 1) (by kernel_rfl) rfl rfl) (ev_dep (j := 2) (by kernel_rfl) rfl rfl) (fun w2 u0 u1 hb h0 h1 => by obtain rfl := h0; obtain rfl := h1; exact (same8_any _ _ x y false _ (ke0.below hb) (ky.below hb) HU.out).mono fun e w3 h => RetV.pd h)) ?_
                  refine And.intro (ob_un rfl (wt_none rfl) (ev_dep (j := 3) (by kernel_rfl) rfl rfl) (fun _ => un_not _ _) (fun _ => rfl)) ?_
                  trivial
                case done15 =>
                  refine fun w9 hb9 v0 h0 v1 h1 v2 h2 v3 h3 v4 h4 b hbf => ?_
                  obtain rfl := h0; obtain rfl := h1; obtain rfl := h2; obtain rfl := h3; obtain rfl := h4
                  simp only [Act.put, List.setIfInBounds_toArray, List.set_cons_zero, List.set_cons_succ] at hbf
                  subst hbf
                  replace Be0 := Be0.below hb9
                  replace ke0s := ke0s.below hb9
                  replace ke0d := ke0d.below hb9
                  replace ke0z := ke0z.below hb9
                  replace ke0 := ke0.below hb9
                  replace By := By.below hb9
                  replace kys := kys.below hb9
                  replace kyd := kyd.below hb9
                  replace kyz := kyz.below hb9
                  replace ky := ky.below hb9
                  replace bb := bb.trans (hb9.mono bb.size)
                  have hsz9 := bb.size
                  refine ops_done ?_
                  go_wp2
                  go_ret
                  exact ⟨by rw [HW.out]; rfl, bb⟩
        · have HW : Hid (b = true) := by
            show _ = _
            rw [HB.out]
            have := HA.out
            rw [List.take_of_length_le (by omega), List.take_of_length_le (by have := HE.out; omega)] at this
            exact decide_eq_true this
          go_wp2
          go_ret
          exact ⟨by rw [HW.out]; rfl, bb⟩
  · have HNE : Hid ((((p.length : Nat) : Int) != ((q.length : Nat) : Int)) = true) := by show _ = _; rw [bne_iff_ne]; omega
    have HW : Hid (b = false) := by show _ = _; rw [HB.out]; exact decide_eq_false fun e => he (by rw [e])
    clear he
    have sB := bb.size
    refine flowp 5 [Pd.eq (.slice A0 p.length c0), Pd.eq (.int .i64 ((p.length : Nat) : Int)), Pd.eq (.slice A1 q.length c1), Pd.eq (.int .i64 ((q.length : Nat) : Int)), Pd.eq (.bool true)] (by kernel_rfl) ?ob10 ?done10
    case ob10 =>
      refine And.intro (ob_move rfl (wt_none rfl) (ev_far rfl rfl) (fun _ _ h => h)) ?_
      refine And.intro (ob_len rfl (wt_none rfl) (ev_dep (j := 0) (by kernel_rfl) rfl rfl) (fun _ _ hx => ⟨_, by rw [hx]; exact len_slice Tryz.underlying53 _ _ _ _, rfl⟩)) ?_
      refine And.intro (ob_move rfl (wt_none rfl) (ev_far rfl rfl) (fun _ _ h => h)) ?_
      refine And.intro (ob_len rfl (wt_none rfl) (ev_dep (j := 2) (by kernel_rfl) rfl rfl) (fun _ _ hx => ⟨_, by rw [hx]; exact len_slice Tryz.underlying53 _ _ _ _, rfl⟩)) ?_
      refine And.intro (ob_bin rfl (wt_none rfl) (ev_dep (j := 1) (by kernel_rfl) rfl rfl) (ev_dep (j := 3) (by kernel_rfl) rfl rfl) (fun _ _ _ hx hy => ⟨.bool true, by rw [hx, hy, bin_neq_int, HNE.out], rfl⟩)) ?_
      trivial
    case done10 =>
      refine fun w2 hb2 v0 h0 v1 h1 v2 h2 v3 h3 v4 h4 b hbf => ?_
      obtain rfl := h0; obtain rfl := h1; obtain rfl := h2; obtain rfl := h3; obtain rfl := h4
      simp only [Act.put, List.setIfInBounds_toArray, List.set_cons_zero, List.set_cons_succ] at hbf
      subst hbf
      replace bb := bb.trans (hb2.mono bb.size)
      have hsz2 := bb.size
      refine ops_done ?_
      go_wp2
      go_ret
      exact ⟨by rw [HW.out]; rfl, bb⟩
set_option maxHeartbeats 1600000 in
set_option maxRecDepth 100000 in
theorem fvsame_gen (a0 a1 : Value) (p q : List Rat) (b : Bool) (w : World) (h0 : SlF .u64 4294967296 w a0 p) (h1 : SlF .u64 4294967296 w a1 q) (hb : b = decide (p = q)) :
    Calls Tryz.prog 62 #[a0, a1] w (RetV (.bool b) w) := by
  have bb : Below w.heap.size w w := Below.refl _ _
  have sl0 := h0
  obtain ⟨A0, c0, rfl, hc0, hm0⟩ := h0.shape
  unfold maxLen at hm0
  have sl1 := h1
  obtain ⟨A1, c1, rfl, hc1, hm1⟩ := h1.shape
  unfold maxLen at hm1
  have HB := Lib.hid hb
  clear hb
  go_enter Tryz.func62, Tryz.ntmps62
  go_upto_region 1 with (fail)
  have hsz0 := bb.size
  have k0 := sl0.below bb
  have k1 := sl1.below bb
  have sB := bb.size
  refine flowp 4 [Pd.eq (.slice A0 p.length c0), Pd.eq (.slice A1 q.length c1), Pd.eq (.bool b), Pd.eq (.bool b)] (by kernel_rfl) ?ob16 ?done16
  case ob16 =>
    refine And.intro (ob_move rfl (wt_none rfl) (ev_far rfl rfl) (fun _ _ h => h)) ?_
    refine And.intro (ob_move rfl (wt_none rfl) (ev_far rfl rfl) (fun _ _ h => h)) ?_
    refine And.intro (ob_call3 rfl Tryz.func100 (by kernel_rfl) (wt_none rfl) (ev_dep (j := 0) (by kernel_rfl) rfl rfl) (ev_dep (j := 1) (by kernel_rfl) rfl rfl) (ev_func _) (fun w2 u0 u1 u2 hb h0 h1 h2 => by obtain rfl := h0; obtain rfl := h1; obtain rfl := h2; exact (eqf_any _ _ p q b _ (k0.below hb) (k1.below hb) HB.out).mono fun e w3 h => RetV.pd h)) ?_
    refine And.intro (ob_assign rfl (wt_none rfl) (ev_dep (j := 2) (by kernel_rfl) rfl rfl) (fun _ _ h => h)) ?_
    trivial
  case done16 =>
    refine fun w1 hb1 v0 h0 v1 h1 v2 h2 v3 h3 b hbf => ?_
    obtain rfl := h0; obtain rfl := h1; obtain rfl := h2; obtain rfl := h3
    simp only [Act.put, List.setIfInBounds_toArray, List.set_cons_zero, List.set_cons_succ] at hbf
    subst hbf
    replace bb := bb.trans (hb1.mono bb.size)
    have hsz1 := bb.size
    refine ops_done ?_
    go_wp2
    go_ret
    exact ⟨rfl, bb⟩
theorem wideq_at {t : List (List Rat)} {r : List Rat} (h : t[0]? = some r) : wideq t = r.length := by
  cases t with
  | nil => simp at h
  | cons s t =>
    obtain rfl : s = r := by simpa using h
    rfl
set_option maxHeartbeats 1600000 in
set_option maxRecDepth 100000 in
theorem msize_any (a0 : Value) (t : List (List Rat)) (w : World) (h0 : SlT .u64 4294967296 w a0 t) :
    Calls Tryz.prog 24 #[a0] w (RetV (.tuple #[.int .i64 ((t.length : Nat) : Int), .int .i64 ((wideq t : Nat) : Int)]) w) := by
  have bb : Below w.heap.size w w := Below.refl _ _
  have st0 := h0
  obtain ⟨A0, c0, rfl, hc0, hm0⟩ := h0.shape
  unfold maxLen at hm0
  go_enter Tryz.func24, Tryz.ntmps24
  go_upto_region 1 with (fail)
  have hsz0 := bb.size
  by_cases hn : t = []
  · subst hn
    have HE : Hid ((((([] : List (List Rat)).length : Nat) : Int) == 0) = true) := rfl
    have sB := bb.size
    refine flowp 3 [Pd.eq (.slice A0 ([] : List (List Rat)).length c0), Pd.eq (.int .i64 ((([] : List (List Rat)).length : Nat) : Int)), Pd.eq (.bool true)] (by kernel_rfl) ?ob1 ?done1
    case ob1 =>
      refine And.intro (ob_move rfl (wt_none rfl) (ev_far rfl rfl) (fun _ _ h => h)) ?_
      refine And.intro (ob_len rfl (wt_none rfl) (ev_dep (j := 0) (by kernel_rfl) rfl rfl) (fun _ _ hx => ⟨_, by rw [hx]; exact len_slice Tryz.underlying52 _ _ _ _, rfl⟩)) ?_
      refine And.intro (ob_bin rfl (wt_none rfl) (ev_dep (j := 1) (by kernel_rfl) rfl rfl) (ev_const _) (fun _ _ _ hx hy => ⟨.bool true, by rw [hx, hy, bin_eql_int, HE.out], rfl⟩)) ?_
      trivial
    case done1 =>
      refine fun w12 hb12 v0 h0 v1 h1 v2 h2 b hbf => ?_
      obtain rfl := h0; obtain rfl := h1; obtain rfl := h2
      simp only [Act.put, List.setIfInBounds_toArray, List.set_cons_zero, List.set_cons_succ] at hbf
      subst hbf
      replace bb := bb.trans (hb12.mono bb.size)
      have hsz12 := bb.size
      refine ops_done ?_
      go_wp2
      go_ret2
      exact ⟨rfl, bb⟩
  · have hl0 : 0 < t.length := List.length_pos_iff.2 hn
    obtain ⟨r, hr⟩ : ∃ r, t[0]? = some r := ⟨_, List.getElem?_eq_getElem hl0⟩
    have HE : Hid ((((t.length : Nat) : Int) == 0) = false) := by show _ = _; rw [beq_eq_false_iff_ne]; omega
    have HW : Hid (r.length = wideq t) := (wideq_at hr).symm
    obtain ⟨ad0, rfl⟩ := st0.place hn
    obtain ⟨Arr, crr, hir, ewr, srr⟩ := st0.at2 hr
    clear hr
    have sB := bb.size
    refine flowp 3 [Pd.eq (.slice (some ad0) t.length c0), Pd.eq (.int .i64 ((t.length : Nat) : Int)), Pd.eq (.bool false)] (by kernel_rfl) ?ob2 ?done2
    case ob2 =>
      refine And.intro (ob_move rfl (wt_none rfl) (ev_far rfl rfl) (fun _ _ h => h)) ?_
      refine And.intro (ob_len rfl (wt_none rfl) (ev_dep (j := 0) (by kernel_rfl) rfl rfl) (fun _ _ hx => ⟨_, by rw [hx]; exact len_slice Tryz.underlying52 _ _ _ _, rfl⟩)) ?_
      refine And.intro (ob_bin rfl (wt_none rfl) (ev_dep (j := 1) (by kernel_rfl) rfl rfl) (ev_const _) (fun _ _ _ hx hy => ⟨.bool false, by rw [hx, hy, bin_eql_int, HE.out], rfl⟩)) ?_
      trivial
    case done2 =>
      refine fun w12 hb12 v0 h0 v1 h1 v2 h2 b hbf => ?_
      obtain rfl := h0; obtain rfl := h1; obtain rfl := h2
      simp only [Act.put, List.setIfInBounds_toArray, List.set_cons_zero, List.set_cons_succ] at hbf
      subst hbf
      replace bb := bb.trans (hb12.mono bb.size)
      have hsz12 := bb.size
      refine ops_done ?_
      have ecr := (bb.cell (World.block_lt_of_cell? w _ ewr)).trans ewr
      have sB := bb.size
      go_upto_region 3 with (fail)
      refine flow 8 [Pd.eq (.slice (some ad0) t.length c0), Pd.eq (.int .i64 ((t.length : Nat) : Int)), Pd.eq (.slice (some ad0) t.length c0), Pd.eq (.pointer (some (ad0.add 0))), Pd.eq (.slice Arr r.length crr), Pd.eq (.int .i64 ((r.length : Nat) : Int)), Pd.eq (.int .i64 ((t.length : Nat) : Int)), Pd.eq (.int .i64 ((r.length : Nat) : Int))] (by kernel_rfl) (by kernel_rfl) ?ob3 ?done3
      case ob3 =>
        refine And.intro (ob_move rfl (wt_none rfl) (ev_far rfl rfl) (fun _ _ h => h)) ?_
        refine And.intro (ob_len rfl (wt_none rfl) (ev_dep (j := 0) (by kernel_rfl) rfl rfl) (fun _ _ hx => ⟨_, by rw [hx]; exact len_slice Tryz.underlying52 _ _ _ _, rfl⟩)) ?_
        refine And.intro (ob_move rfl (wt_none rfl) (ev_far rfl rfl) (fun _ _ h => h)) ?_
        refine And.intro (ob_indexAddr rfl (wt_none rfl) (ev_dep (j := 2) (by kernel_rfl) rfl rfl) (ev_const _) (fun _ _ _ hx hy => ⟨_, by rw [hx, hy]; exact index1_any (k := 0) Tryz.underlying52 (by kernel_rfl) ad0 hir _, rfl⟩)) ?_
        refine And.intro (ob_load rfl (wt_none rfl) (ev_dep (j := 3) (by kernel_rfl) rfl rfl) (fun w2 hb => run_load1 Tryz.underlying53 rfl ((hb.cell (World.block_lt_of_cell? w12 _ ecr)).trans ecr)) (fun _ _ => rfl)) ?_
        refine And.intro (ob_len rfl (wt_none rfl) (ev_dep (j := 4) (by kernel_rfl) rfl rfl) (fun _ _ hx => ⟨_, by rw [hx]; exact len_slice Tryz.underlying53 _ _ _ _, rfl⟩)) ?_
        refine And.intro (ob_assign rfl (wt_none rfl) (ev_dep (j := 1) (by kernel_rfl) rfl rfl) (fun _ _ h => h)) ?_
        refine And.intro (ob_assign rfl (wt_none rfl) (ev_dep (j := 5) (by kernel_rfl) rfl rfl) (fun _ _ h => h)) ?_
        trivial
      case done3 =>
        refine fun w13 hb13 v0 h0 v1 h1 v2 h2 v3 h3 v4 h4 v5 h5 v6 h6 v7 h7 b hbf => ?_
        obtain rfl := h0; obtain rfl := h1; obtain rfl := h2; obtain rfl := h3; obtain rfl := h4; obtain rfl := h5; obtain rfl := h6; obtain rfl := h7
        simp only [Act.put, List.setIfInBounds_toArray, List.set_cons_zero, List.set_cons_succ] at hbf
        subst hbf
        replace bb := bb.trans (hb13.mono bb.size)
        have hsz13 := bb.size
        refine any_done (by kernel_rfl) ?_
        go_wp2
        go_ret2
        exact ⟨by rw [HW.out]; rfl, bb⟩
set_option maxHeartbeats 1600000 in
set_option maxRecDepth 100000 in
theorem mfit_any (a0 a1 : Value) (p q : List (List Rat)) (b : Bool) (w : World) (h0 : SlT .u64 4294967296 w a0 p) (h1 : SlT .u64 4294967296 w a1 q) (hb : b = decide (wideq p = q.length)) :
    Calls Tryz.prog 65 #[a0, a1] w (RetV (.bool b) w) := by
  have bb : Below w.heap.size w w := Below.refl _ _
  have st0 := h0
  obtain ⟨A0, c0, rfl, hc0, hm0⟩ := h0.shape
  unfold maxLen at hm0
  have st1 := h1
  obtain ⟨A1, c1, rfl, hc1, hm1⟩ := h1.shape
  unfold maxLen at hm1
  have HB : Hid ((((wideq p : Nat) : Int) == ((q.length : Nat) : Int)) = b) := by
    show _ = _
    rw [hb]
    by_cases h : wideq p = q.length
    · rw [decide_eq_true h, h]; exact beq_self_eq_true _
    · rw [decide_eq_false h, beq_eq_false_iff_ne]; omega
  clear hb
  go_enter Tryz.func65, Tryz.ntmps65
  go_upto_region 1 with (fail)
  have hsz0 := bb.size
  have sB := bb.size
  refine flowp 7 [Pd.eq (.slice A0 p.length c0), Pd.eq (.tuple #[.int .i64 ((p.length : Nat) : Int), .int .i64 ((wideq p : Nat) : Int)]), Pd.eq (.tuple #[.int .i64 ((p.length : Nat) : Int), .int .i64 ((wideq p : Nat) : Int)]), Pd.eq (.int .i64 ((p.length : Nat) : Int)), Pd.eq (.int .i64 ((wideq p : Nat) : Int)), Pd.eq (.int .i64 ((p.length : Nat) : Int)), Pd.eq (.int .i64 ((wideq p : Nat) : Int))] (by kernel_rfl) ?ob7 ?done7
  case ob7 =>
    refine And.intro (ob_move rfl (wt_none rfl) (ev_far rfl rfl) (fun _ _ h => h)) ?_
    refine And.intro (ob_call1 rfl Tryz.func24 (by kernel_rfl) (wt_none rfl) (ev_dep (j := 0) (by kernel_rfl) rfl rfl) (fun w2 u0 hb h0 => by obtain rfl := h0; exact (msize_any _ p _ ((st0.below bb).below hb)).mono fun e w3 h => RetV.pd h)) ?_
    refine And.intro (ob_move rfl (wt_none rfl) (ev_dep (j := 1) (by kernel_rfl) rfl rfl) (fun _ _ h => h)) ?_
    refine And.intro (ob_extract rfl (wt_none rfl) (ev_dep (j := 2) (by kernel_rfl) rfl rfl) (fun w2 u hu => by obtain rfl := hu; exact ⟨_, rfl, rfl⟩)) ?_
    refine And.intro (ob_extract rfl (wt_none rfl) (ev_dep (j := 2) (by kernel_rfl) rfl rfl) (fun w2 u hu => by obtain rfl := hu; exact ⟨_, rfl, rfl⟩)) ?_
    refine And.intro (ob_assign rfl (wt_none rfl) (ev_dep (j := 3) (by kernel_rfl) rfl rfl) (fun _ _ h => h)) ?_
    refine And.intro (ob_assign rfl (wt_none rfl) (ev_dep (j := 4) (by kernel_rfl) rfl rfl) (fun _ _ h => h)) ?_
    trivial
  case done7 =>
    refine fun w11 hb11 v0 h0 v1 h1 v2 h2 v3 h3 v4 h4 v5 h5 v6 h6 b hbf => ?_
    obtain rfl := h0; obtain rfl := h1; obtain rfl := h2; obtain rfl := h3; obtain rfl := h4; obtain rfl := h5; obtain rfl := h6
    simp only [Act.put, List.setIfInBounds_toArray, List.set_cons_zero, List.set_cons_succ] at hbf
    subst hbf
    replace bb := bb.trans (hb11.mono bb.size)
    have hsz11 := bb.size
    refine ops_done ?_
    have sB := bb.size
    go_upto_region 2 with (fail)
    refine flowp 5 [Pd.eq (.int .i64 ((wideq p : Nat) : Int)), Pd.eq (.slice A1 q.length c1), Pd.eq (.int .i64 ((q.length : Nat) : Int)), Pd.eq (.bool b), Pd.eq (.bool b)] (by kernel_rfl) ?ob8 ?done8
    case ob8 =>
      refine And.intro (ob_move rfl (wt_none rfl) (ev_far rfl rfl) (fun _ _ h => h)) ?_
      refine And.intro (ob_move rfl (wt_none rfl) (ev_far rfl rfl) (fun _ _ h => h)) ?_
      refine And.intro (ob_len rfl (wt_none rfl) (ev_dep (j := 1) (by kernel_rfl) rfl rfl) (fun _ _ hx => ⟨_, by rw [hx]; exact len_slice Tryz.underlying52 _ _ _ _, rfl⟩)) ?_
      refine And.intro (ob_bin rfl (wt_none rfl) (ev_dep (j := 0) (by kernel_rfl) rfl rfl) (ev_dep (j := 2) (by kernel_rfl) rfl rfl) (fun _ _ _ hx hy => ⟨.bool b, by rw [hx, hy, bin_eql_int, HB.out], rfl⟩)) ?_
      refine And.intro (ob_assign rfl (wt_none rfl) (ev_dep (j := 3) (by kernel_rfl) rfl rfl) (fun _ _ h => h)) ?_
      trivial
    case done8 =>
      refine fun w12 hb12 v0 h0 v1 h1 v2 h2 v3 h3 v4 h4 b hbf => ?_
      obtain rfl := h0; obtain rfl := h1; obtain rfl := h2; obtain rfl := h3; obtain rfl := h4
      simp only [Act.put, List.setIfInBounds_toArray, List.set_cons_zero, List.set_cons_succ] at hbf
      subst hbf
      replace bb := bb.trans (hb12.mono bb.size)
      have hsz12 := bb.size
      refine ops_done ?_
      go_wp2
      go_ret
      exact ⟨rfl, bb⟩
set_option maxHeartbeats 3200000 in
set_option maxRecDepth 100000 in
theorem eqt_any (a0 a1 : Value) (p q : List (List Rat)) (b : Bool) (w : World) (h0 : SlT .u64 4294967296 w a0 p) (h1 : SlT .u64 4294967296 w a1 q) (hb : b = decide (p = q)) :
    Calls Tryz.prog 61 #[a0, a1, .func (.func 62) #[] #[]] w (RetV (.bool b) w) := by
  have bb : Below w.heap.size w w := Below.refl _ _
  have st0 := h0
  obtain ⟨A0, c0, rfl, hc0, hm0⟩ := h0.shape
  unfold maxLen at hm0
  have st1 := h1
  obtain ⟨A1, c1, rfl, hc1, hm1⟩ := h1.shape
  unfold maxLen at hm1
  have HB := Lib.hid hb
  clear hb
  go_enter Tryz.func61, Tryz.ntmps61
  go_upto_region 1 with (fail)
  have hsz0 := bb.size
  by_cases he : p.length = q.length
  · have HNE : Hid ((((p.length : Nat) : Int) != ((q.length : Nat) : Int)) = false) := by show _ = _; rw [bne_eq_false_iff_eq]; omega
    have HE := Lib.hid he
    clear he
    have sB := bb.size
    refine flowp 5 [Pd.eq (.slice A0 p.length c0), Pd.eq (.int .i64 ((p.length : Nat) : Int)), Pd.eq (.slice A1 q.length c1), Pd.eq (.int .i64 ((q.length : Nat) : Int)), Pd.eq (.bool false)] (by kernel_rfl) ?ob15 ?done15
    case ob15 =>
      refine And.intro (ob_move rfl (wt_none rfl) (ev_far rfl rfl) (fun _ _ h => h)) ?_
      refine And.intro (ob_len rfl (wt_none rfl) (ev_dep (j := 0) (by kernel_rfl) rfl rfl) (fun _ _ hx => ⟨_, by rw [hx]; exact len_slice Tryz.underlying52 _ _ _ _, rfl⟩)) ?_
      refine And.intro (ob_move rfl (wt_none rfl) (ev_far rfl rfl) (fun _ _ h => h)) ?_
      refine And.intro (ob_len rfl (wt_none rfl) (ev_dep (j := 2) (by kernel_rfl) rfl rfl) (fun _ _ hx => ⟨_, by rw [hx]; exact len_slice Tryz.underlying52 _ _ _ _, rfl⟩)) ?_
      refine And.intro (ob_bin rfl (wt_none rfl) (ev_dep (j := 1) (by kernel_rfl) rfl rfl) (ev_dep (j := 3) (by kernel_rfl) rfl rfl) (fun _ _ _ hx hy => ⟨.bool false, by rw [hx, hy, bin_neq_int, HNE.out], rfl⟩)) ?_
      trivial
    case done15 =>
      refine fun w12 hb12 v0 h0 v1 h1 v2 h2 v3 h3 v4 h4 b hbf => ?_
      obtain rfl := h0; obtain rfl := h1; obtain rfl := h2; obtain rfl := h3; obtain rfl := h4
      simp only [Act.put, List.setIfInBounds_toArray, List.set_cons_zero, List.set_cons_succ] at hbf
      subst hbf
      replace bb := bb.trans (hb12.mono bb.size)
      have hsz12 := bb.size
      refine ops_done ?_
      go_wp2
      go_loopw [17] (fun v17 wr => ∃ k : Nat, k ≤ p.length ∧ Hid (p.take k = q.take k) ∧ Below w.heap.size w wr ∧ v17 = .int .i64 (k : Int)) (fun v17 _ => p.length - (intOf v17).toNat)
      case atStart => exact ⟨0, by omega, rfl, bb, rfl⟩
      case round =>
        obtain ⟨k, hk, HA, hbw, rfl⟩ := hrel
        clear bb
        have bb := hbw
        clear hbw
        have hszr := bb.size
        by_cases hlt : k < p.length
        · have hlt2 : k < q.length := by have := HE.out; omega
          have hnp : p ≠ [] := List.length_pos_iff.1 (by omega)
          have hnq : q ≠ [] := List.length_pos_iff.1 (by omega)
          obtain ⟨x, hx⟩ : ∃ x, p[k]? = some x := ⟨_, List.getElem?_eq_getElem hlt⟩
          obtain ⟨y, hy⟩ : ∃ y, q[k]? = some y := ⟨_, List.getElem?_eq_getElem hlt2⟩
          have HX := Lib.hid hx
          have HY := Lib.hid hy
          obtain ⟨ad0, rfl⟩ := st0.place hnp
          obtain ⟨ad1, rfl⟩ := st1.place hnq
          obtain ⟨Arx, crx, hix, ewx, srx⟩ := st0.at2 hx
          obtain ⟨Ary, cry, hiy, ewy, sry⟩ := st1.at2 hy
          clear hx hy
          have ecx := (bb.cell (World.block_lt_of_cell? w _ ewx)).trans ewx
          have ecy := (bb.cell (World.block_lt_of_cell? w _ ewy)).trans ewy
          have sB := bb.size
          go_upto_region 5 with (fail)
          refine flowp 5 [Pd.eq (.int .i64 (k : Int)), Pd.eq (.pointer (some (ad0.add k))), Pd.eq (.slice Arx x.length crx), Pd.eq (.int .i64 (k : Int)), Pd.eq (.slice Arx x.length crx)] (by kernel_rfl) ?ob16 ?done16
          case ob16 =>
            refine And.intro (ob_move rfl (wt_none rfl) (ev_far rfl rfl) (fun _ _ h => h)) ?_
            refine And.intro (ob_indexAddr rfl (wt_none rfl) (ev_far rfl rfl) (ev_far rfl rfl) (fun _ _ _ hx hy => ⟨_, by rw [hx, hy]; exact index1_any (k := k) Tryz.underlying52 (by kernel_rfl) ad0 hlt _, rfl⟩)) ?_
            refine And.intro (ob_load rfl (wt_none rfl) (ev_dep (j := 1) (by kernel_rfl) rfl rfl) (fun w2 hb => run_load1 Tryz.underlying53 rfl ((hb.cell (World.block_lt_of_cell? wr _ ecx)).trans ecx)) (fun _ _ => rfl)) ?_
            refine And.intro (ob_assign rfl (wt_none rfl) (ev_dep (j := 0) (by kernel_rfl) rfl rfl) (fun _ _ h => h)) ?_
            refine And.intro (ob_assign rfl (wt_none rfl) (ev_dep (j := 2) (by kernel_rfl) rfl rfl) (fun _ _ h => h)) ?_
            trivial
          case done16 =>
            refine fun w14 hb14 v0 h0 v1 h1 v2 h2 v3 h3 v4 h4 b hbf => ?_
            obtain rfl := h0; obtain rfl := h1; obtain rfl := h2; obtain rfl := h3; obtain rfl := h4
            simp only [Act.put, List.setIfInBounds_toArray, List.set_cons_zero, List.set_cons_succ] at hbf
            subst hbf
            replace bb := bb.trans (hb14.mono bb.size)
            have hsz14 := bb.size
            refine ops_done ?_
            clear ecx ecy
            have ecy := (bb.cell (World.block_lt_of_cell? w _ ewy)).trans ewy
            have sB := bb.size
            go_upto_region 6 with (fail)
            refine flowp 5 [Pd.eq (.slice (some ad1) q.length c1), Pd.eq (.int .i64 (k : Int)), Pd.eq (.pointer (some (ad1.add k))), Pd.eq (.slice Ary y.length cry), Pd.eq (.slice Ary y.length cry)] (by kernel_rfl) ?ob17 ?done17
            case ob17 =>
              refine And.intro (ob_move rfl (wt_none rfl) (ev_far rfl rfl) (fun _ _ h => h)) ?_
              refine And.intro (ob_move rfl (wt_none rfl) (ev_far rfl rfl) (fun _ _ h => h)) ?_
              refine And.intro (ob_indexAddr rfl (wt_none rfl) (ev_dep (j := 0) (by kernel_rfl) rfl rfl) (ev_dep (j := 1) (by kernel_rfl) rfl rfl) (fun _ _ _ hx hy => ⟨_, by rw [hx, hy]; exact index1_any (k := k) Tryz.underlying52 (by kernel_rfl) ad1 hlt2 _, rfl⟩)) ?_
              refine And.intro (ob_load rfl (wt_none rfl) (ev_dep (j := 2) (by kernel_rfl) rfl rfl) (fun w2 hb => run_load1 Tryz.underlying53 rfl ((hb.cell (World.block_lt_of_cell? w14 _ ecy)).trans ecy)) (fun _ _ => rfl)) ?_
              refine And.intro (ob_assign rfl (wt_none rfl) (ev_dep (j := 3) (by kernel_rfl) rfl rfl) (fun _ _ h => h)) ?_
              trivial
            case done17 =>
              refine fun w15 hb15 v0 h0 v1 h1 v2 h2 v3 h3 v4 h4 b hbf => ?_
              obtain rfl := h0; obtain rfl := h1; obtain rfl := h2; obtain rfl := h3; obtain rfl := h4
              simp only [Act.put, List.setIfInBounds_toArray, List.set_cons_zero, List.set_cons_succ] at hbf
              subst hbf
              replace bb := bb.trans (hb15.mono bb.size)
              have hsz15 := bb.size
              refine ops_done ?_
              obtain ⟨u, hu⟩ : ∃ u, u = decide (x = y) := ⟨_, rfl⟩
              have HU := Lib.hid hu
              by_cases hxy : x = y
              · have HA2 : Hid (p.take (k + 1) = q.take (k + 1)) := by show _ = _; rw [List.take_add_one, List.take_add_one, HX.out, HY.out, HA.out, hxy]
                rw [decide_eq_true hxy] at hu
                subst hu
                clear hxy
                have sB := bb.size
                go_upto_region 7 with (fail)
                refine flowp 5 [Pd.eq (.func (.func 62) #[] #[]), Pd.eq (.slice Arx x.length crx), Pd.eq (.slice Ary y.length cry), Pd.eq (.bool true), Pd.eq (.bool false)] (by kernel_rfl) ?ob18 ?done18
                case ob18 =>
                  refine And.intro (ob_move rfl (wt_none rfl) (ev_far rfl rfl) (fun _ _ h => h)) ?_
                  refine And.intro (ob_move rfl (wt_none rfl) (ev_far rfl rfl) (fun _ _ h => h)) ?_
                  refine And.intro (ob_move rfl (wt_none rfl) (ev_far rfl rfl) (fun _ _ h => h)) ?_
                  refine And.intro (ob_callv2 rfl (ev_dep (j := 0) (by kernel_rfl) rfl rfl) Tryz.func62 (by kernel_rfl) (wt_none rfl) (ev_dep (j := 1) (by kernel_rfl) rfl rfl) (ev_dep (j := 2) (by kernel_rfl) rfl rfl) (fun w2 u0 u1 hb h0 h1 => by obtain rfl := h0; obtain rfl := h1; exact (fvsame_gen _ _ x y true _ ((srx.below bb).below hb) ((sry.below bb).below hb) HU.out).mono fun e w3 h => RetV.pd h)) ?_
                  refine And.intro (ob_un rfl (wt_none rfl) (ev_dep (j := 3) (by kernel_rfl) rfl rfl) (fun _ => un_not _ _) (fun _ => rfl)) ?_
                  trivial
                case done18 =>
                  refine fun w17 hb17 v0 h0 v1 h1 v2 h2 v3 h3 v4 h4 b hbf => ?_
                  obtain rfl := h0; obtain rfl := h1; obtain rfl := h2; obtain rfl := h3; obtain rfl := h4
                  simp only [Act.put, List.setIfInBounds_toArray, List.set_cons_zero, List.set_cons_succ] at hbf
                  subst hbf
                  replace bb := bb.trans (hb17.mono bb.size)
                  have hsz17 := bb.size
                  refine ops_done ?_
                  have hsk : p.length - (k + 1) < p.length - k := by omega
                  go_wp2
                  go_roundw
                  case rel => exact ⟨k + 1, by omega, HA2, bb, by go_num⟩
                  case measure => simp [intOf]; omega
              · have HW : Hid (b = false) := by
                  show _ = _
                  rw [HB.out]
                  refine decide_eq_false fun e => ?_
                  have h0 := HX.out
                  rw [e, HY.out] at h0
                  exact hxy (Option.some.inj h0).symm
                rw [decide_eq_false hxy] at hu
                subst hu
                clear hxy
                have sB := bb.size
                go_upto_region 7 with (fail)
                refine flowp 5 [Pd.eq (.func (.func 62) #[] #[]), Pd.eq (.slice Arx x.length crx), Pd.eq (.slice Ary y.length cry), Pd.eq (.bool false), Pd.eq (.bool true)] (by kernel_rfl) ?ob19 ?done19
                case ob19 =>
                  refine And.intro (ob_move rfl (wt_none rfl) (ev_far rfl rfl) (fun _ _ h => h)) ?_
                  refine And.intro (ob_move rfl (wt_none rfl) (ev_far rfl rfl) (fun _ _ h => h)) ?_
                  refine And.intro (ob_move rfl (wt_none rfl) (ev_far rfl rfl) (fun _ _ h => h)) ?_
                  refine And.intro (ob_callv2 rfl (ev_dep (j := 0) (by kernel_rfl) rfl rfl) Tryz.func62 (by kernel_rfl) (wt_none rfl) (ev_dep (j := 1) (by kernel_rfl) rfl rfl) (ev_dep (j := 2) (by kernel_rfl) rfl rfl) (fun w2 u0 u1 hb h0 h1 => by obtain rfl := h0; obtain rfl := h1; exact (fvsame_gen _ _ x y false _ ((srx.below bb).below hb) ((sry.below bb).below hb) HU.out).mono fun e w3 h => RetV.pd h)) ?_
                  refine And.intro (ob_un rfl (wt_none rfl) (ev_dep (j := 3) (by kernel_rfl) rfl rfl) (fun _ => un_not _ _) (fun _ => rfl)) ?_
                  trivial
                case done19 =>
                  refine fun w17 hb17 v0 h0 v1 h1 v2 h2 v3 h3 v4 h4 b hbf => ?_
                  obtain rfl := h0; obtain rfl := h1; obtain rfl := h2; obtain rfl := h3; obtain rfl := h4
                  simp only [Act.put, List.setIfInBounds_toArray, List.set_cons_zero, List.set_cons_succ] at hbf
                  subst hbf
                  replace bb := bb.trans (hb17.mono bb.size)
                  have hsz17 := bb.size
                  refine ops_done ?_
                  go_wp2
                  go_ret
                  exact ⟨by rw [HW.out]; rfl, bb⟩
        · have HW : Hid (b = true) := by
            show _ = _
            rw [HB.out]
            have := HA.out
            rw [List.take_of_length_le (by omega), List.take_of_length_le (by have := HE.out; omega)] at this
            exact decide_eq_true this
          go_wp2
          go_ret
          exact ⟨by rw [HW.out]; rfl, bb⟩
  · have HNE : Hid ((((p.length : Nat) : Int) != ((q.length : Nat) : Int)) = true) := by show _ = _; rw [bne_iff_ne]; omega
    have HW : Hid (b = false) := by show _ = _; rw [HB.out]; exact decide_eq_false fun e => he (by rw [e])
    clear he
    have sB := bb.size
    refine flowp 5 [Pd.eq (.slice A0 p.length c0), Pd.eq (.int .i64 ((p.length : Nat) : Int)), Pd.eq (.slice A1 q.length c1), Pd.eq (.int .i64 ((q.length : Nat) : Int)), Pd.eq (.bool true)] (by kernel_rfl) ?ob14 ?done14
    case ob14 =>
      refine And.intro (ob_move rfl (wt_none rfl) (ev_far rfl rfl) (fun _ _ h => h)) ?_
      refine And.intro (ob_len rfl (wt_none rfl) (ev_dep (j := 0) (by kernel_rfl) rfl rfl) (fun _ _ hx => ⟨_, by rw [hx]; exact len_slice Tryz.underlying52 _ _ _ _, rfl⟩)) ?_
      refine And.intro (ob_move rfl (wt_none rfl) (ev_far rfl rfl) (fun _ _ h => h)) ?_
      refine And.intro (ob_len rfl (wt_none rfl) (ev_dep (j := 2) (by kernel_rfl) rfl rfl) (fun _ _ hx => ⟨_, by rw [hx]; exact len_slice Tryz.underlying52 _ _ _ _, rfl⟩)) ?_
      refine And.intro (ob_bin rfl (wt_none rfl) (ev_dep (j := 1) (by kernel_rfl) rfl rfl) (ev_dep (j := 3) (by kernel_rfl) rfl rfl) (fun _ _ _ hx hy => ⟨.bool true, by rw [hx, hy, bin_neq_int, HNE.out], rfl⟩)) ?_
      trivial
    case done14 =>
      refine fun w12 hb12 v0 h0 v1 h1 v2 h2 v3 h3 v4 h4 b hbf => ?_
      obtain rfl := h0; obtain rfl := h1; obtain rfl := h2; obtain rfl := h3; obtain rfl := h4
      simp only [Act.put, List.setIfInBounds_toArray, List.set_cons_zero, List.set_cons_succ] at hbf
      subst hbf
      replace bb := bb.trans (hb12.mono bb.size)
      have hsz12 := bb.size
      refine ops_done ?_
      go_wp2
      go_ret
      exact ⟨by rw [HW.out]; rfl, bb⟩
set_option maxHeartbeats 1600000 in
set_option maxRecDepth 100000 in
theorem msame_any (a0 a1 : Value) (p q : List (List Rat)) (b : Bool) (w : World) (h0 : SlT .u64 4294967296 w a0 p) (h1 : SlT .u64 4294967296 w a1 q) (hb : b = decide (p = q)) :
    Calls Tryz.prog 26 #[a0, a1] w (RetV (.bool b) w) := by
  have bb : Below w.heap.size w w := Below.refl _ _
  have st0 := h0
  obtain ⟨A0, c0, rfl, hc0, hm0⟩ := h0.shape
  unfold maxLen at hm0
  have st1 := h1
  obtain ⟨A1, c1, rfl, hc1, hm1⟩ := h1.shape
  unfold maxLen at hm1
  have HB := Lib.hid hb
  clear hb
  go_enter Tryz.func26, Tryz.ntmps26
  go_upto_region 1 with (fail)
  have hsz0 := bb.size
  have sB := bb.size
  refine flowp 4 [Pd.eq (.slice A0 p.length c0), Pd.eq (.slice A1 q.length c1), Pd.eq (.bool b), Pd.eq (.bool b)] (by kernel_rfl) ?ob20 ?done20
  case ob20 =>
    refine And.intro (ob_move rfl (wt_none rfl) (ev_far rfl rfl) (fun _ _ h => h)) ?_
    refine And.intro (ob_move rfl (wt_none rfl) (ev_far rfl rfl) (fun _ _ h => h)) ?_
    refine And.intro (ob_call3 rfl Tryz.func61 (by kernel_rfl) (wt_none rfl) (ev_dep (j := 0) (by kernel_rfl) rfl rfl) (ev_dep (j := 1) (by kernel_rfl) rfl rfl) (ev_func _) (fun w2 u0 u1 u2 hb h0 h1 h2 => by obtain rfl := h0; obtain rfl := h1; obtain rfl := h2; exact (eqt_any _ _ p q b _ ((st0.below bb).below hb) ((st1.below bb).below hb) HB.out).mono fun e w3 h => RetV.pd h)) ?_
    refine And.intro (ob_assign rfl (wt_none rfl) (ev_dep (j := 2) (by kernel_rfl) rfl rfl) (fun _ _ h => h)) ?_
    trivial
  case done20 =>
    refine fun w11 hb11 v0 h0 v1 h1 v2 h2 v3 h3 b hbf => ?_
    obtain rfl := h0; obtain rfl := h1; obtain rfl := h2; obtain rfl := h3
    simp only [Act.put, List.setIfInBounds_toArray, List.set_cons_zero, List.set_cons_succ] at hbf
    subst hbf
    replace bb := bb.trans (hb11.mono bb.size)
    have hsz11 := bb.size
    refine ops_done ?_
    go_wp2
    go_ret
    exact ⟨rfl, bb⟩
set_option maxHeartbeats 1600000 in
set_option maxRecDepth 100000 in
theorem mayc_any (a0 : Value) (g n : Nat) (r : List Rat) (b : Bool) (w : World) (h0 : SlF .u64 4294967296 w a0 r) (hB : Blk w g 3 #[.int .i64 (n : Int)]) (hb : b = decide (r.length ≠ n)) :
    Calls Tryz.prog 97 #[a0, .pointer (some ⟨g, 0, none⟩)] w (RetV (.bool b) w) := by
  obtain ⟨A, c, rfl, _⟩ := h0.shape
  have c0 := hB.cell 0
  have HB : Hid ((((r.length : Nat) : Int) != (n : Int)) = b) := by
    show _ = _
    rw [hb]
    by_cases h : r.length = n
    · rw [decide_eq_false (fun k => k h), h]; exact bne_self_eq_false _
    · rw [decide_eq_true h, bne_iff_ne]; omega
  clear hb
  go_enter Tryz.func97, Tryz.ntmps97
  go_wp2
  go_ret
  exact ⟨by rw [← HB.out]; rfl, Below.refl _ _⟩
/-- A number that is below 0 just where b does not hold. -/
def RetIdx (b : Bool) (w : World) (e : Ending) (w' : World) : Prop := ∃ n : Int, e = .returned (.int .i64 n) ∧ decide (0 ≤ n) = b ∧ Below w.heap.size w w'
set_option maxHeartbeats 1600000 in
set_option maxRecDepth 100000 in
theorem mindex_any (a0 : Value) (g n : Nat) (t : List (List Rat)) (b : Bool) (w : World) (h0 : SlT .u64 4294967296 w a0 t) (hB : Blk w g 3 #[.int .i64 (n : Int)]) (hb : b = decide (∃ r ∈ t, r.length ≠ n)) :
    Calls Tryz.prog 117 #[a0, .func (.func 97) #[] #[.pointer (some ⟨g, 0, none⟩)]] w (RetIdx b w) := by
  have st0 := h0
  obtain ⟨A, c, rfl, hc, hm⟩ := h0.shape
  unfold maxLen at hm
  have HB := Lib.hid hb
  clear hb
  go_enter Tryz.func117, Tryz.ntmps117
  go_wp2
  go_loopw [8] (fun v8 wr => ∃ k : Nat, k ≤ t.length ∧ Hid (∀ r ∈ t.take k, r.length = n) ∧ Below w.heap.size w wr ∧ v8 = .int .i64 (k : Int)) (fun v8 _ => t.length - (intOf v8).toNat)
  case atStart => exact ⟨0, by omega, (by show ∀ r ∈ _, _; intro r hr; simp at hr), Below.refl _ _, rfl⟩
  case round =>
    obtain ⟨k, hk, HA, bb, rfl⟩ := hrel
    by_cases hlt : k < t.length
    · have hnt : t ≠ [] := List.length_pos_iff.1 (by omega)
      obtain ⟨x, hx⟩ : ∃ x, t[k]? = some x := ⟨_, List.getElem?_eq_getElem hlt⟩
      have HX := Lib.hid hx
      obtain ⟨ad, rfl⟩ := st0.place hnt
      obtain ⟨Ar, cr, hi, ec, sr⟩ := (st0.below bb).at2 hx
      have hBr := hB.below bb
      clear hx
      obtain ⟨u, hu⟩ : ∃ u, u = decide (x.length ≠ n) := ⟨_, rfl⟩
      go_wp2_with fail
      refine (mayc_any _ g n x u _ sr hBr hu).mono ?_
      rintro e w2 ⟨rfl, b2⟩
      have bb2 := bb.trans (b2.mono bb.size)
      by_cases hxn : x.length = n
      · obtain rfl : u = false := by rw [hu]; exact decide_eq_false fun k => k hxn
        have HA2 : Hid (∀ r ∈ t.take (k + 1), r.length = n) := by
          show ∀ r ∈ _, _
          intro r hr
          rw [List.take_add_one, HX.out] at hr
          rcases List.mem_append.1 hr with hr | hr
          · exact HA.out r hr
          · obtain rfl : r = x := by simpa using hr
            exact hxn
        have hsk : t.length - (k + 1) < t.length - k := by omega
        clear hu ec sr hBr
        go_wp2
        go_roundw
        case rel => exact ⟨k + 1, by omega, HA2, bb2, by go_num⟩
        case measure => simp [intOf]; omega
      · obtain rfl : u = true := by rw [hu]; exact decide_eq_true hxn
        have HW : Hid (b = true) := by
          show _ = _
          rw [HB.out]
          exact decide_eq_true ⟨x, List.mem_of_getElem? HX.out, hxn⟩
        clear hu ec sr hBr
        go_wp2
        go_ret
        exact ⟨(k : Int), rfl, by rw [HW.out]; exact decide_eq_true (by omega), bb2⟩
    · have HW : Hid (b = false) := by
        show _ = _
        rw [HB.out]
        refine decide_eq_false fun h => ?_
        obtain ⟨r, hr, hn⟩ := h
        have h1 := HA.out
        rw [List.take_of_length_le (by omega)] at h1
        exact hn (h1 r hr)
      go_wp2
      go_ret
      exact ⟨-1, rfl, by rw [HW.out]; rfl, bb⟩
set_option maxHeartbeats 1600000 in
set_option maxRecDepth 100000 in
theorem mcontains_any (a0 : Value) (g n : Nat) (t : List (List Rat)) (b : Bool) (w : World) (h0 : SlT .u64 4294967296 w a0 t) (hB : Blk w g 3 #[.int .i64 (n : Int)]) (hb : b = decide (∃ r ∈ t, r.length ≠ n)) :
    Calls Tryz.prog 96 #[a0, .func (.func 97) #[] #[.pointer (some ⟨g, 0, none⟩)]] w (RetV (.bool b) w) := by
  have st0 := h0
  obtain ⟨A, c, rfl, hc, hm⟩ := h0.shape
  unfold maxLen at hm
  go_enter Tryz.func96, Tryz.ntmps96
  go_wp2_with fail
  refine (mindex_any _ g n t b _ st0 hB hb).mono ?_
  rintro e w2 ⟨m, rfl, hm2, b2⟩
  have HM := Lib.hid hm2
  clear hm2 hb
  go_wp2
  go_ret
  exact ⟨by rw [← HM.out]; rfl, b2⟩
set_option maxHeartbeats 1600000 in
set_option maxRecDepth 100000 in
theorem mmay_any (a0 : Value) (t : List (List Rat)) (b : Bool) (w : World) (h0 : SlT .u64 4294967296 w a0 t) (hb : b = decide (mayq t)) :
    Calls Tryz.prog 55 #[a0] w (RetV (.bool b) w) := by
  have st0 := h0
  obtain ⟨A, c, rfl, hc, hm⟩ := h0.shape
  unfold maxLen at hm
  have hwl : wideq t ≤ 9223372036854775807 := by
    by_cases hn : t = []
    · rw [hn]; show 0 ≤ _; omega
    · obtain ⟨r, hr⟩ : ∃ r, t[0]? = some r := ⟨_, List.getElem?_eq_getElem (List.length_pos_iff.2 hn)⟩
      obtain ⟨ad, Ar, cr, _, _, _, sr⟩ := st0.at_ hr
      obtain ⟨_, _, e, h1, h2⟩ := sr.shape
      unfold maxLen at h2
      rw [wideq_at hr]; omega
  have HB := Lib.hid hb
  clear hb
  go_enter Tryz.func55, Tryz.ntmps55
  go_wp2_with fail
  refine (msize_any _ t _ st0).mono ?_
  rintro e w2 ⟨rfl, b2⟩
  have st2 := st0.below b2
  go_upto_region 2 with (fail)
  have bn := Blk.new w2 3 #[.int .i64 ((wideq t : Nat) : Int)]
  have ba := below_alloc (w := w2) (Nat.le_refl _) (.cells #[.int .i64 ((wideq t : Nat) : Int)] 3)
  obtain ⟨g, hg⟩ : ∃ g, g = w2.heap.size := ⟨_, rfl⟩
  obtain ⟨w3, hw3⟩ : ∃ w3, w3 = w2.alloc (.cells #[.int .i64 ((wideq t : Nat) : Int)] 3) := ⟨_, rfl⟩
  rw [← hw3] at bn ba ⊢
  rw [← hg] at bn ⊢
  have bb : Below w.heap.size w w3 := b2.trans (ba.mono b2.size)
  have st3 := st0.below bb
  clear hw3 hg ba b2 st2
  have c0 := bn.cell 0
  have z0 := bn.frozen 0
  by_cases h1 : 200 < t.length
  · have h1' : (200 : Int) < ((t.length : Nat) : Int) := by omega
    have HW : Hid (b = false) := by show _ = _; rw [HB.out]; exact decide_eq_false fun h => by have := h.1; omega
    go_wp2
    go_ret
    exact ⟨by rw [HW.out]; rfl, bb⟩
  · have h1' : ¬ (200 : Int) < ((t.length : Nat) : Int) := by omega
    by_cases h2 : 200 < wideq t
    · have h2' : (200 : Int) < ((wideq t : Nat) : Int) := by omega
      have HW : Hid (b = false) := by show _ = _; rw [HB.out]; exact decide_eq_false fun h => by have := h.2.1; omega
      go_wp2
      go_ret
      exact ⟨by rw [HW.out]; rfl, bb⟩
    · have h2' : ¬ (200 : Int) < ((wideq t : Nat) : Int) := by omega
      obtain ⟨u, hu⟩ : ∃ u, u = decide (∃ r ∈ t, r.length ≠ wideq t) := ⟨_, rfl⟩
      have HW : Hid ((!u) = b) := by
        show _ = _
        rw [HB.out, hu]
        by_cases he : evenq t
        · rw [decide_eq_true (show mayq t from ⟨by omega, by omega, he⟩), decide_eq_false fun h => by obtain ⟨r, hr, hn⟩ := h; exact hn (he r hr)]; rfl
        · have e1 : decide (mayq t) = false := decide_eq_false fun h => he h.2.2
          have e2 : decide (∃ r ∈ t, r.length ≠ wideq t) = true := decide_eq_true (Classical.byContradiction fun h => he fun r hr => Classical.byContradiction fun hn => h ⟨r, hr, hn⟩)
          rw [e1, e2]; rfl
      have HU := Lib.hid hu
      clear hu
      go_wp2_with fail
      refine (mcontains_any _ g (wideq t) t u _ st3 bn HU.out).mono ?_
      rintro e w4 ⟨rfl, b4⟩
      have bb4 := bb.trans (b4.mono bb.size)
      clear c0 z0
      go_wp2
      go_ret
      exact ⟨by rw [← HW.out]; rfl, bb4⟩
theorem SlT.drew {k : IntKind} {B : Nat} {w : World} {v : Value} {t : List (List Rat)} (h : SlT k B w v t) : SlT k B w.drew v t := h.below (Below.refl _ w).drew
theorem ListT.drew {w : World} {v : Value} {ts : List (List (List Rat))} (h : ListT w v ts) : ListT w.drew v ts := h.below (Below.refl _ w).drew
section
variable {P : Program} {Q : Exit → Act → World → Prop} {ops : Array Oper} {L : List Oper} {Φ : List Pd} {w0 : World} {a0 : Act} {i : Nat} {o : Oper}
end
theorem info_vec : ∃ i, Tryz.prog.info? 53 = some i ∧ i.zero = some (.slice none 0 0) ∧ i.size = 1 ∧ i.bytes = 24 := info_parts (P := Tryz.prog) (e := 53) (z := .slice none 0 0) (size := 1) (bytes := 24) (by kernel_rfl)
theorem info_veq : ∃ i, Tryz.prog.info? 57 = some i ∧ i.zero = some (.slice none 0 0) ∧ i.size = 1 ∧ i.bytes = 24 := info_parts (P := Tryz.prog) (e := 57) (z := .slice none 0 0) (size := 1) (bytes := 24) (by kernel_rfl)
/-- A table of rows that have no places yet, made by the call. -/
def RetBar (n : Nat) (w : World) (e : Ending) (w' : World) : Prop := ∃ g, e = .returned (.slice (some ⟨g, 0, none⟩) n n) ∧ TabB w' g 53 (List.replicate n (.slice none 0 0)) ∧ w.heap.size ≤ g ∧ Below w.heap.size w w'
theorem RetBar.pd {n : Nat} {w : World} {e : Ending} {w' : World} {B : Nat} (h : RetBar n w e w') (hB : B ≤ w.heap.size) : RetPd (pbar n 53 B) w e w' := by
  obtain ⟨g, h1, h2, h3, h4⟩ := h
  exact ⟨_, h1, ⟨g, rfl, h2, Nat.le_trans hB h3⟩, h4⟩
set_option maxHeartbeats 1600000 in
set_option maxRecDepth 100000 in
theorem mcopied_any (a0 : Value) (x : Rat) (w : World) (h0 : IsQ w a0 x) (hl : lenQ x 100000) :
    Calls Tryz.prog 64 #[a0] w (RetQ x w) := by
  obtain ⟨u0, t0, rfl, s0, r0⟩ := h0
  obtain ⟨A0, c0, rfl, _⟩ := id s0
  obtain ⟨D0, e0, rfl, _⟩ := id r0
  go_enter Tryz.func64, Tryz.ntmps64
  go_upto_region 1 with (fail)
  obtain ⟨wx, hwx, bb, B0, BR0, hsz⟩ := vars2 w 36 36 #[.bool (ngB (x).num), .slice A0 (digs 4294967296 (x).num.natAbs).length c0, .slice D0 (digs 4294967296 (x).den).length e0] #[.bool false, .slice none 0 0, .slice none 0 0]
  rw [hwx]
  clear hwx
  have k0s := s0.below bb
  have k0d := r0.below bb
  have k0z : IsZ wx (.agg #[.bool (ngB (x).num), .slice A0 (digs 4294967296 (x).num.natAbs).length c0]) (x).num := ⟨_, rfl, k0s⟩
  have k0 : IsQ wx (.agg #[.bool (ngB (x).num), .slice A0 (digs 4294967296 (x).num.natAbs).length c0, .slice D0 (digs 4294967296 (x).den).length e0]) (x) := ⟨_, _, rfl, k0s, k0d⟩
  have hsz0 := bb.size
  have sB := bb.size
  refine flow 12 [Pd.eq (.pointer (some ⟨w.heap.size, 0, none⟩)), Pd.eq (.pointer (some ⟨w.heap.size, 0, none⟩)), Pd.eq (.bool (ngB (x).num)), Pd.eq (.pointer (some ⟨w.heap.size, 0, none⟩)), Pd.eq (.pointer (some ⟨w.heap.size, 1, none⟩)), Pd.eq (.slice A0 (digs 4294967296 (x).num.natAbs).length c0), ps .u64 (digs 4294967296 (x).num.natAbs) wx.heap.size, pz ((x).num) wx.heap.size, Pd.eq (.pointer (some ⟨w.heap.size, 2, none⟩)), Pd.eq (.slice D0 (digs 4294967296 (x).den).length e0), ps .u64 (digs 4294967296 (x).den) wx.heap.size, pq (x) wx.heap.size] (by kernel_rfl) (by kernel_rfl) ?ob1 ?done1
  case ob1 =>
    refine And.intro (ob_fieldAddr rfl (wt_none rfl) (ev_far rfl rfl) (fun _ => by kernel_rfl) (fun _ => rfl)) ?_
    refine And.intro (ob_fieldAddr rfl (wt_none rfl) (ev_dep (j := 0) (by kernel_rfl) rfl rfl) (fun _ => by kernel_rfl) (fun _ => rfl)) ?_
    refine And.intro (ob_load rfl (wt_none rfl) (ev_dep (j := 1) (by kernel_rfl) rfl rfl) (fun w2 hb => run_load1 Tryz.underlying4 rfl ((B0.drew.below hb).cell 0)) (fun _ _ => rfl)) ?_
    refine And.intro (ob_fieldAddr rfl (wt_none rfl) (ev_far rfl rfl) (fun _ => by kernel_rfl) (fun _ => rfl)) ?_
    refine And.intro (ob_fieldAddr rfl (wt_none rfl) (ev_dep (j := 3) (by kernel_rfl) rfl rfl) (fun _ => by kernel_rfl) (fun _ => rfl)) ?_
    refine And.intro (ob_load rfl (wt_none rfl) (ev_dep (j := 4) (by kernel_rfl) rfl rfl) (fun w2 hb => run_load1 Tryz.underlying32 rfl ((B0.drew.below hb).cell 1)) (fun _ _ => rfl)) ?_
    refine And.intro (ob_call1 rfl Tryz.func79 (by kernel_rfl) (wt_none rfl) (ev_dep (j := 5) (by kernel_rfl) rfl rfl) (fun w2 u0 hb h0 => by obtain rfl := h0; exact (clone_any _ _ _ (k0s.drew.below hb) (Nat.le_trans hl.1 (by decide))).mono fun e w3 h => RetS.pd h hb.size)) ?_
    refine And.intro (ob_build2b rfl (wt_none rfl) (ev_dep (j := 2) (by kernel_rfl) rfl rfl) (ev_dep (j := 6) (by kernel_rfl) rfl rfl) (fun w2 u v hb hu hv => by obtain rfl := hu; obtain ⟨A7, c7, rfl, _⟩ := id hv.1; exact ⟨.agg #[.bool (ngB (x).num), .slice A7 (digs 4294967296 (x).num.natAbs).length c7], by kernel_rfl, ⟨_, rfl, hv.1⟩, freshZ_mk hv.2⟩)) ?_
    refine And.intro (ob_fieldAddr rfl (wt_none rfl) (ev_far rfl rfl) (fun _ => by kernel_rfl) (fun _ => rfl)) ?_
    refine And.intro (ob_load rfl (wt_none rfl) (ev_dep (j := 8) (by kernel_rfl) rfl rfl) (fun w2 hb => run_load1 Tryz.underlying32 rfl ((B0.drew.below hb).cell 2)) (fun _ _ => rfl)) ?_
    refine And.intro (ob_call1 rfl Tryz.func79 (by kernel_rfl) (wt_none rfl) (ev_dep (j := 9) (by kernel_rfl) rfl rfl) (fun w2 u0 hb h0 => by obtain rfl := h0; exact (clone_any _ _ _ (k0d.drew.below hb) (Nat.le_trans hl.2 (by decide))).mono fun e w3 h => RetS.pd h hb.size)) ?_
    refine And.intro (ob_build2b rfl (wt_none rfl) (ev_dep (j := 7) (by kernel_rfl) rfl rfl) (ev_dep (j := 10) (by kernel_rfl) rfl rfl) (fun w2 u v hb hu hv => by obtain ⟨u7, rfl, hu7⟩ := hu.1; obtain ⟨A7, c7, rfl, _⟩ := id hu7; obtain ⟨A8, c8, rfl, _⟩ := id hv.1; exact ⟨.agg #[.bool (ngB (x).num), .slice A7 (digs 4294967296 (x).num.natAbs).length c7, .slice A8 (digs 4294967296 (x).den).length c8], by kernel_rfl, ⟨⟨_, _, rfl, hu7, hv.1⟩, freshQ_mk (hu.2 _ _ rfl) hv.2⟩⟩)) ?_
    trivial
  case done1 =>
    refine fun w11 hb11 v0 h0 v1 h1 v2 h2 v3 h3 v4 h4 v5 h5 v6 h6 v7 h7 v8 h8 v9 h9 v10 h10 v11 h11 b hbf => ?_
    obtain rfl := h0; obtain rfl := h1; obtain rfl := h2; obtain rfl := h3; obtain rfl := h4; obtain rfl := h5; obtain rfl := h8; obtain rfl := h9
    obtain ⟨q6, f6⟩ := h6
    obtain ⟨q7, f7⟩ := h7
    obtain ⟨q10, f10⟩ := h10
    obtain ⟨q11, f11⟩ := h11
    simp only [Act.put, List.setIfInBounds_toArray, List.set_cons_zero, List.set_cons_succ] at hbf
    subst hbf
    replace B0 := B0.below hb11
    replace k0s := k0s.below hb11
    replace k0d := k0d.below hb11
    replace k0z := k0z.below hb11
    replace k0 := k0.below hb11
    replace BR0 := BR0.below hb11
    replace bb := bb.trans (hb11.mono bb.size)
    have hsz11 := bb.size
    have s_6 := sB
    have s_7 := sB
    have s_10 := sB
    have s_11 := sB
    obtain ⟨u11, t11, rfl, q11, d11⟩ := q11
    obtain ⟨A9, c9, rfl, _⟩ := id q11
    obtain ⟨D9, e9, rfl, _⟩ := id d11
    refine any_store (i := 12) (by kernel_rfl) rfl rfl rfl rfl rfl rfl (cells := [.bool (ngB (x).num), .slice A9 (digs 4294967296 (x).num.natAbs).length c9, .slice D9 (digs 4294967296 (x).den).length e9]) rfl BR0 rfl (by kernel_rfl) (one3 rfl rfl rfl) fun w9 hg9 B9 => ?_
    have k9 := off q11 BR0 no_ints3 hg9
    have d9 := off d11 BR0 no_ints3 hg9
    have f9 := f11.mono (show w.heap.size ≤ _ from s_11)
    have bb9 := bb.trans ((Below.refl _ _).grown hg9 bb.size (fun g hg => by injection hg with hg; omega))
    obtain ⟨C0, C1, C2, _, _, _⟩ := three B9
    refine any_done (by kernel_rfl) ?_
    go_wp2
    exact bodyPost_ret (v := .agg #[.bool (ngB (x).num), .slice A9 (digs 4294967296 (x).num.natAbs).length c9, .slice D9 (digs 4294967296 (x).den).length e9]) (by simp [results, Tryz.results64, go_sem, C0, C1, C2]) rfl ⟨_, rfl, ⟨_, _, rfl, k9, d9⟩, f9, bb9⟩
set_option maxHeartbeats 1600000 in
set_option maxRecDepth 100000 in
theorem mbare_any (n : Int) (d : Nat) (w : World) (hn : n = (d : Int)) (hd : d ≤ 1000000) :
    Calls Tryz.prog 63 #[.int .i64 n] w (RetBar d w) := by
  have bb : Below w.heap.size w w := Below.refl _ _
  subst hn
  go_enter Tryz.func63, Tryz.ntmps63
  go_upto_region 1 with (fail)
  have hsz0 := bb.size
  have sB := bb.size
  refine flowp 3 [Pd.eq (.int .i64 (d : Int)), pbar d 53 w.heap.size, pbar d 53 w.heap.size] (by kernel_rfl) ?ob2 ?done2
  case ob2 =>
    refine And.intro (ob_move rfl (wt_none rfl) (ev_far rfl rfl) (fun _ _ h => h)) ?_
    refine And.intro (ob_make_v d rfl rfl (ev_dep (j := 0) (by kernel_rfl) rfl rfl) (ev_dep (j := 0) (by kernel_rfl) rfl rfl) Tryz.underlying52 info_vec (by omega) (fun _ _ h => h)) ?_
    refine And.intro (ob_assign rfl (wt_none rfl) (ev_dep (j := 1) (by kernel_rfl) rfl rfl) (fun _ _ h => h)) ?_
    trivial
  case done2 =>
    refine fun w11 hb11 v0 h0 v1 h1 v2 h2 b hbf => ?_
    obtain rfl := h0
    have q1 := h1
    have q2 := h2
    simp only [Act.put, List.setIfInBounds_toArray, List.set_cons_zero, List.set_cons_succ] at hbf
    subst hbf
    replace bb := bb.trans (hb11.mono bb.size)
    have hsz11 := bb.size
    refine ops_done ?_
    obtain ⟨g, rfl, TB, hg⟩ := q2
    go_wp2
    go_ret
    exact ⟨g, rfl, TB, hg, bb⟩
set_option maxHeartbeats 3200000 in
set_option maxRecDepth 100000 in
theorem mdots_any (a0 a1 : Value) (t : List (List Rat)) (v : List Rat) (m n : Nat) (w : World) (h0 : SlT .u64 4294967296 w a0 t) (h1 : SlF .u64 4294967296 w a1 v) (he : ∀ r ∈ t, r.length = v.length) (hl : t.length ≤ 1000 ∧ v.length ≤ 1000 ∧ lenT t m ∧ (∀ y ∈ v, lenQ y n) ∧ (m + n + 1) * v.length + 1 ≤ 900) :
    Calls Tryz.prog 60 #[a0, a1] w (RetSl (dotsq t v) w) := by
  have bb : Below w.heap.size w w := Below.refl _ _
  have sl1 := h1
  obtain ⟨A1, c1, rfl, hc1, hm1⟩ := h1.shape
  unfold maxLen at hm1
  have st0 := h0
  obtain ⟨A0, c0, rfl, hc0, hm0⟩ := h0.shape
  unfold maxLen at hm0
  have HL := Lib.hid hl
  have HE := Lib.hid he
  have ht2 : t.length ≤ 1000 := hl.1
  have HRL : Hid ((dotsq t v).length = t.length) := dotsq_len t v
  clear hl he
  go_enter Tryz.func60, Tryz.ntmps60
  go_upto_region 1 with (fail)
  have hsz0 := bb.size
  have sB := bb.size
  refine flowp 4 [Pd.eq (.slice A0 t.length c0), Pd.eq (.int .i64 ((t.length : Nat) : Int)), pro t.length [] w.heap.size, pro t.length [] w.heap.size] (by kernel_rfl) ?ob3 ?done3
  case ob3 =>
    refine And.intro (ob_move rfl (wt_none rfl) (ev_far rfl rfl) (fun _ _ h => h)) ?_
    refine And.intro (ob_len rfl (wt_none rfl) (ev_dep (j := 0) (by kernel_rfl) rfl rfl) (fun _ _ hx => ⟨_, by rw [hx]; exact len_slice Tryz.underlying52 _ _ _ _, rfl⟩)) ?_
    refine And.intro (ob_make_q t.length rfl rfl (ev_dep (j := 1) (by kernel_rfl) rfl rfl) (ev_dep (j := 1) (by kernel_rfl) rfl rfl) Tryz.underlying53 info_rat (by omega) (fun _ _ h => h)) ?_
    refine And.intro (ob_assign rfl (wt_none rfl) (ev_dep (j := 2) (by kernel_rfl) rfl rfl) (fun _ _ h => h)) ?_
    trivial
  case done3 =>
    refine fun w11 hb11 v0 h0 v1 h1 v2 h2 v3 h3 b hbf => ?_
    obtain rfl := h0; obtain rfl := h1
    have q2 := h2
    have q3 := h3
    simp only [Act.put, List.setIfInBounds_toArray, List.set_cons_zero, List.set_cons_succ] at hbf
    subst hbf
    replace bb := bb.trans (hb11.mono bb.size)
    have hsz11 := bb.size
    refine ops_done ?_
    obtain ⟨g, rfl, RN, hg⟩ := q3
    have hgw : w.heap.size ≤ g := by omega
    go_wp2
    go_loopw [13] (fun v13 wr => ∃ k : Nat, k ≤ t.length ∧ RowN wr g t.length ((dotsq t v).take k) ∧ Below w.heap.size w wr ∧ v13 = .int .i64 (k : Int)) (fun v13 _ => t.length - (intOf v13).toNat)
    case atStart => exact ⟨0, by omega, RN, bb, rfl⟩
    case round =>
      obtain ⟨k, hk, hR, hbw, rfl⟩ := hrel
      clear RN bb
      have RN := hR
      have bb := hbw
      clear hR hbw
      have hszr := bb.size
      have hgl := RN.lt
      by_cases hlt : k < t.length
      · have hnt : t ≠ [] := List.length_pos_iff.1 (by omega)
        obtain ⟨x, hx⟩ : ∃ x, t[k]? = some x := ⟨_, List.getElem?_eq_getElem hlt⟩
        have hxm := List.mem_of_getElem? hx
        have HXE : Hid (x.length = v.length) := HE.out x hxm
        have HXB : Hid (x.length ≤ 1000 ∧ (∀ y ∈ x, lenQ y m) ∧ (∀ y ∈ v, lenQ y n) ∧ (m + n + 1) * x.length + 1 ≤ 900) := ⟨by rw [HXE.out]; exact HL.out.2.1, HL.out.2.2.1 x hxm, HL.out.2.2.2.1, by rw [HXE.out]; exact HL.out.2.2.2.2⟩
        have HTK : Hid ((dotsq t v).take (k + 1) = (dotsq t v).take k ++ [dotq x v]) := take_snoc (dotsq_at hx)
        have HLK : Hid (k = ((dotsq t v).take k).length) := by show _ = _; rw [List.length_take, HRL.out]; omega
        obtain ⟨ad0, rfl⟩ := st0.place hnt
        obtain ⟨Arx, crx, hix, ewx, srx⟩ := st0.at2 hx
        clear hx hxm
        have ecx := (bb.cell (World.block_lt_of_cell? w _ ewx)).trans ewx
        have sB := bb.size
        go_upto_region 4 with (fail)
        refine flowp 5 [Pd.eq (.int .i64 (k : Int)), Pd.eq (.pointer (some (ad0.add k))), Pd.eq (.slice Arx x.length crx), Pd.eq (.int .i64 (k : Int)), Pd.eq (.slice Arx x.length crx)] (by kernel_rfl) ?ob4 ?done4
        case ob4 =>
          refine And.intro (ob_move rfl (wt_none rfl) (ev_far rfl rfl) (fun _ _ h => h)) ?_
          refine And.intro (ob_indexAddr rfl (wt_none rfl) (ev_far rfl rfl) (ev_far rfl rfl) (fun _ _ _ hx hy => ⟨_, by rw [hx, hy]; exact index1_any (k := k) Tryz.underlying52 (by kernel_rfl) ad0 hlt _, rfl⟩)) ?_
          refine And.intro (ob_load rfl (wt_none rfl) (ev_dep (j := 1) (by kernel_rfl) rfl rfl) (fun w2 hb => run_load1 Tryz.underlying53 rfl ((hb.cell (World.block_lt_of_cell? wr _ ecx)).trans ecx)) (fun _ _ => rfl)) ?_
          refine And.intro (ob_assign rfl (wt_none rfl) (ev_dep (j := 0) (by kernel_rfl) rfl rfl) (fun _ _ h => h)) ?_
          refine And.intro (ob_assign rfl (wt_none rfl) (ev_dep (j := 2) (by kernel_rfl) rfl rfl) (fun _ _ h => h)) ?_
          trivial
        case done4 =>
          refine fun w13 hb13 v0 h0 v1 h1 v2 h2 v3 h3 v4 h4 b hbf => ?_
          obtain rfl := h0; obtain rfl := h1; obtain rfl := h2; obtain rfl := h3; obtain rfl := h4
          simp only [Act.put, List.setIfInBounds_toArray, List.set_cons_zero, List.set_cons_succ] at hbf
          subst hbf
          replace RN := RN.below hb13
          replace bb := bb.trans (hb13.mono bb.size)
          have hsz13 := bb.size
          refine ops_done ?_
          clear ecx
          have sB := bb.size
          go_upto_region 5 with (fail)
          refine flowp 9 [Pd.eq (.slice (some ⟨g, 0, none⟩) t.length t.length), Pd.eq (.int .i64 (k : Int)), Pd.eq (.slice Arx x.length crx), Pd.eq (.slice A1 v.length c1), pqe ((dotq x v)) 0, pqe ((dotq x v)) 0, pqn ((dotq x v)), Pd.eq (.int .i64 0), Pd.eq (.pointer (some ⟨g, 0 + k * 3, none⟩))] (by kernel_rfl) ?ob5 ?done5
          case ob5 =>
            refine And.intro (ob_move rfl (wt_none rfl) (ev_far rfl rfl) (fun _ _ h => h)) ?_
            refine And.intro (ob_move rfl (wt_none rfl) (ev_far rfl rfl) (fun _ _ h => h)) ?_
            refine And.intro (ob_move rfl (wt_none rfl) (ev_far rfl rfl) (fun _ _ h => h)) ?_
            refine And.intro (ob_move rfl (wt_none rfl) (ev_far rfl rfl) (fun _ _ h => h)) ?_
            refine And.intro (ob_call2 rfl Tryz.func99 (by kernel_rfl) (wt_none rfl) (ev_dep (j := 2) (by kernel_rfl) rfl rfl) (ev_dep (j := 3) (by kernel_rfl) rfl rfl) (fun w2 u0 u1 hb h0 h1 => by obtain rfl := h0; obtain rfl := h1; exact (fdot_gen _ _ x v m n _ ((srx.below bb).below hb) ((sl1.below bb).below hb) HXE.out HXB.out).mono fun e w3 h => RetQE.pd h)) ?_
            refine And.intro (ob_move rfl (wt_none rfl) (ev_dep (j := 4) (by kernel_rfl) rfl rfl) (fun _ _ h => h)) ?_
            refine And.intro (ob_extract rfl (wt_none rfl) (ev_dep (j := 5) (by kernel_rfl) rfl rfl) (fun w2 u hu => by obtain ⟨v, rfl, q1⟩ := hu; exact ⟨v, rfl, q1⟩)) ?_
            refine And.intro (ob_extract rfl (wt_none rfl) (ev_dep (j := 5) (by kernel_rfl) rfl rfl) (fun w2 u hu => by obtain ⟨v, rfl, q1⟩ := hu; exact ⟨_, rfl, rfl⟩)) ?_
            refine And.intro (ob_indexAddr rfl (wt_none rfl) (ev_dep (j := 0) (by kernel_rfl) rfl rfl) (ev_dep (j := 1) (by kernel_rfl) rfl rfl) (fun _ _ _ hx hy => ⟨_, by rw [hx, hy]; exact index3 (k := k) Tryz.underlying53 (by kernel_rfl) hlt _, rfl⟩)) ?_
            trivial
          case done5 =>
            refine fun w14 hb14 v0 h0 v1 h1 v2 h2 v3 h3 v4 h4 v5 h5 v6 h6 v7 h7 v8 h8 b hbf => ?_
            obtain rfl := h0; obtain rfl := h1; obtain rfl := h2; obtain rfl := h3; obtain rfl := h7; obtain rfl := h8
            clear h4
            clear h5
            have q6 := h6
            simp only [Act.put, List.setIfInBounds_toArray, List.set_cons_zero, List.set_cons_succ] at hbf
            subst hbf
            replace RN := RN.below hb14
            replace bb := bb.trans (hb14.mono bb.size)
            have hsz14 := bb.size
            obtain ⟨u6, t6, rfl, q6, d6⟩ := q6
            obtain ⟨A9, c9, rfl, _⟩ := id q6
            obtain ⟨D9, e9, rfl, _⟩ := id d6
            refine ops_store_q (j := 9) rfl rfl rfl rfl (g := g) (i := k) (q := (dotq x v)) rfl rfl (by kernel_rfl) RN hlt q6 d6 fun w15 hg15 hP15 => ?_
            replace bb := bb.trans ((Below.refl _ _).grown hg15 bb.size (fun g hg => by injection hg with hg; omega))
            have hsz15 := bb.size
            replace RN := hP15.1 HLK.out
            clear hP15
            refine ops_done ?_
            rw [← HTK.out] at RN
            have hsk : t.length - (k + 1) < t.length - k := by omega
            go_wp2
            go_roundw
            case rel => exact ⟨k + 1, by omega, RN, bb, by go_num⟩
            case measure => simp [intOf]; omega
      · rw [List.take_of_length_le (by rw [HRL.out]; omega)] at RN
        have hS := RN.sl HRL.out (by omega)
        clear RN
        go_wp2
        go_ret
        exact ⟨_, rfl, hS, bb⟩
end Go.Proofs.YtpcdkepkipadaaaGreat.rat
namespace Go.Proofs.YtpcdkepkipadaaaGreat.flow
open Go.RowKit Go.Proofs.YtpcdkepkipadaaaGreat.num Go.Proofs.YtpcdkepkipadaaaGreat.mem Go.Proofs.YtpcdkepkipadaaaGreat.whl Go.Proofs.YtpcdkepkipadaaaGreat.rat
set_option linter.unusedVariables false
section
variable {P : Program} {Q : Exit → Act → World → Prop} {ops : Array Oper} {o : Oper} {i : Nat}
theorem ops_append_q {rest : List Nat} {a : Act} {w : World} (s x : Operand) {t : TypeId} (ho : ops[i]? = some o) (hg : o.guard = none) (hop : o.op = .call { callee := .builtin .append, args := #[s, x], argTypes := #[t, t] })
    {base : Nat} {T : TypeId} (hT : P.underlying t = some (.slice T)) (hI : ∃ i, P.info? T = some i ∧ i.zero = some (.agg #[.bool false, .slice none 0 0, .slice none 0 0]) ∧ i.size = 3 ∧ i.bytes = 56) {v : Value} {p : Elt} {ps : List Elt} (hs : a.eval s = v) (hown : RowF T w base v ps) {ad : Addr} {c : Nat} (hx : a.eval x = .slice (some ad) 1 c)
    (h0 : w.cell? (ad.add 0) = some (.bool (ngB p.1.num))) (h1 : w.cell? (ad.add 1) = some p.2.1) (h2 : w.cell? (ad.add 2) = some p.2.2) (k1 : p.2.1.oneCell' = true) (k2 : p.2.2.oneCell' = true) (hlen : ps.length ≤ 1000000000) (hbase : base ≤ w.heap.size)
    (h : ∀ v' w' b, RowF T w' base v' (ps ++ [p]) → Below base w w' → Hid (Grew w w' v v') → a.put o.dst v' = b → wpOps P ops Q rest b w') : wpOps P ops Q (i :: rest) a w :=
  ops_one ho hg (wp_append_q s x hop hT hI hs hown hx h0 h1 h2 k1 k2 hlen hbase fun v' w' r b k => h v' w' _ r b k rfl)
end
end Go.Proofs.YtpcdkepkipadaaaGreat.flow
namespace Go.Proofs.YtpcdkepkipadaaaGreat.rat
open Go.RowKit Go.Proofs.YtpcdkepkipadaaaGreat.num Go.Proofs.YtpcdkepkipadaaaGreat.mem Go.Proofs.YtpcdkepkipadaaaGreat.nat Go.Proofs.YtpcdkepkipadaaaGreat.txt Go.Proofs.YtpcdkepkipadaaaGreat.str Go.Proofs.YtpcdkepkipadaaaGreat.flow Go.Proofs.YtpcdkepkipadaaaGreat.whl
set_option linter.unusedVariables false
theorem Grew.trans {w w1 w2 : World} {v v1 v2 : Value} (h : Grew w w1 v v1) (k : Grew w1 w2 v1 v2) : Grew w w2 v v2 := by
  obtain ⟨a1, a2, a3⟩ := h
  obtain ⟨b1, b2, b3⟩ := k
  refine ⟨fun q u l hu hf => ?_, ⟨b2.os.trans a2.os, b2.tape.trans a2.tape, b2.output.trans a2.output, Nat.le_trans a2.size b2.size, fun i hi hne => ?_⟩, fun g hg hne => b3 g (Nat.lt_of_lt_of_le hg a2.size) (a3 g hg hne)⟩
  · have x := a1 q u l hu hf
    exact b1 q u l x.1 x.2
  · rw [b2.block i (Nat.lt_of_lt_of_le hi a2.size) (fun e => a3 i hi (fun e2 => hne e2.symm) e.symm), a2.block i hi hne]
theorem Grew.of_below {w w1 : World} (v : Value) (h : Below w.heap.size w w1) : Grew w w1 v v :=
  ⟨fun q u l hu hf => ⟨hu.below h, hf⟩, ⟨h.os, h.tape, h.output, h.size, fun i hi _ => h.block i hi⟩, fun g _ hne => hne⟩
theorem NewL.below {B B' : Nat} {ps : List Elt} (h : NewL B ps) (hb : B' ≤ B) : NewL B' ps := fun p hp => ⟨(h p hp).1.mono hb, (h p hp).2.mono hb⟩
theorem NewL.far {B : Nat} {ps : List Elt} (h : NewL B ps) {v : Value} (hv : ∀ g, v.ownBlock = some g → g < B) : ∀ p ∈ ps, Far v p.2.1 ∧ Far v p.2.2 := fun p hp => ⟨(h p hp).1.far hv, (h p hp).2.far hv⟩
/-- The table itself stays where one of its rows grows. -/
theorem TabO.mid {k : IntKind} {B : Nat} {T : TypeId} {w w1 : World} {base g n c i : Nat} {TS : TypeId} {us : List Value} {pss : List (List Elt)} {u u' : Value} {ps : List Elt} (hT : T ≠ TS) (h : TabO k B T w base TS (.slice (some ⟨g, 0, none⟩) n c) us pss) (hu : us[i]? = some u) (hps : pss[i]? = some ps) (hgr : Grew w w1 u u') : RowV w1 base TS (.slice (some ⟨g, 0, none⟩) n c) us :=
  World.ownsRow.kept (row := u.ownBlock) h.row hgr.2.1 (.inr fun e => (h.own i u ps hu hps).notRow h.row hT g e.symm rfl)
/-- What the call's own row has become: others behind it, in new memory. -/
def RetApp (T : TypeId) (base : Nat) (a0 : Value) (ps : List Elt) (r : List Rat) (w : World) (e : Ending) (w' : World) : Prop := ∃ u new, e = .returned u ∧ RowF T w' base u (ps ++ new) ∧ new.map (·.1) = r ∧ Grew w w' a0 u ∧ FarF .u64 4294967296 w' u new ∧ NewL w.heap.size new ∧ Below base w w'
set_option linter.unusedSimpArgs false
set_option maxHeartbeats 3200000 in
set_option maxRecDepth 100000 in
theorem mappended_any (a0 a1 : Value) (ps : List Elt) (r : List Rat) (w W : World) (h0 : RowF 36 W w.heap.size a0 ps) (h1 : SlF .u64 4294967296 w a1 r) (hb : Below w.heap.size w W) (hl : ps.length ≤ 1000 ∧ r.length ≤ 1000 ∧ ∀ x ∈ r, lenQ x 100000) :
    Calls Tryz.prog 101 #[a0, a1] W (RetApp 36 w.heap.size a0 ps r W) := by
  have bb : Below w.heap.size w w := Below.refl _ _
  have sl1 := h1
  obtain ⟨A1, c1, rfl, hc1, hm1⟩ := h1.shape
  unfold maxLen at hm1
  have r0 := h0
  obtain ⟨A0, c0, rfl, hc0, hm0, _⟩ := h0.isVF
  have hbase : w.heap.size ≤ W.heap.size := hb.size
  have hbl := h0.base_le
  have HL := Lib.hid hl
  have hps : ps.length ≤ 1000 := hl.1
  have hr2 : r.length ≤ 1000 := hl.2.1
  clear bb hl h0
  have bb : Below w.heap.size w W := hb
  have bW : Below W.heap.size W W := Below.refl _ _
  go_enter Tryz.func101, Tryz.ntmps101
  go_upto_region 1 with (fail)
  have hsz0 := bb.size
  have sB := bb.size
  refine flowp 3 [Pd.eq (.slice A1 r.length c1), Pd.eq (.int .i64 ((r.length : Nat) : Int)), Pd.eq (.int .i64 0)] (by kernel_rfl) ?ob1 ?done1
  case ob1 =>
    refine And.intro (ob_move rfl (wt_none rfl) (ev_far rfl rfl) (fun _ _ h => h)) ?_
    refine And.intro (ob_len rfl (wt_none rfl) (ev_dep (j := 0) (by kernel_rfl) rfl rfl) (fun _ _ hx => ⟨_, by rw [hx]; exact len_slice Tryz.underlying53 _ _ _ _, rfl⟩)) ?_
    refine And.intro (ob_move rfl (wt_none rfl) (ev_const _) (fun _ _ h => h)) ?_
    trivial
  case done1 =>
    refine fun w11 hb11 v0 h0 v1 h1 v2 h2 b hbf => ?_
    obtain rfl := h0; obtain rfl := h1; obtain rfl := h2
    simp only [Act.put, List.setIfInBounds_toArray, List.set_cons_zero, List.set_cons_succ] at hbf
    subst hbf
    replace bb := bb.trans (hb11.mono bb.size)
    have hsz11 := bb.size
    replace bW := bW.trans (hb11.mono bW.size)
    refine ops_done ?_
    go_wp2
    go_loopw [0, 9] (fun v0 v9 wr => ∃ (k : Nat) (new : List Elt), k ≤ r.length ∧ RowF 36 wr w.heap.size v0 (ps ++ new) ∧ Hid (new.map (·.1) = r.take k) ∧ Hid (Grew W wr (.slice A0 ps.length c0) v0) ∧ FarF .u64 4294967296 wr v0 new ∧ NewL W.heap.size new ∧ Below w.heap.size w wr ∧ v9 = .int .i64 (k : Int)) (fun _ v9 _ => r.length - (intOf v9).toNat)
    case atStart => exact ⟨0, [], by omega, by rw [List.append_nil]; exact r0.below bW, rfl, Grew.of_below _ bW, FarF.nil _ _ _ _, NewL.nil _, bb, rfl⟩
    case round =>
      obtain ⟨k, new, hk, hR, HM, HG, hF, hN, hbw, rfl⟩ := hrel
      clear bb bW
      have bb := hbw
      clear hbw
      have hszr := bb.size
      have hsW : W.heap.size ≤ wr.heap.size := HG.out.2.1.size
      by_cases hlt : k < r.length
      · have bl : Below wr.heap.size wr wr := Below.refl _ _
        obtain ⟨AR, cR, hAR, _⟩ := hR.isVF
        subst hAR
        obtain ⟨x, hq1_⟩ : ∃ x, r[k]? = some x := ⟨_, List.getElem?_eq_getElem hlt⟩
        obtain ⟨g1_, o1_, ue1, te1, hA1_, _, e10, e11, e12, es1, ed1⟩ := (sl1.below bb).at_ hq1_
        subst hA1_
        have HQ1 := Lib.hid hq1_
        clear hq1_
        obtain ⟨Ae1, ce1, rfl, _⟩ := id es1
        obtain ⟨De1, ee1, rfl, _⟩ := id ed1
        have ke1 : IsQ wr (.agg #[.bool (ngB x.num), .slice Ae1 (digs 4294967296 x.num.natAbs).length ce1, .slice De1 (digs 4294967296 x.den).length ee1]) x := ⟨_, _, rfl, es1, ed1⟩
        have lx : lenQ x 100000 := HL.out.2.2 x (List.mem_of_getElem? HQ1.out)
        have HNL : Hid (new.length = k) := by
          have h := congrArg List.length HM.out
          rw [List.length_map, List.length_take] at h
          show _ = _
          omega
        have sB := bb.size
        go_upto_region 3 with (fail)
        refine flowp 3 [Pd.eq (.pointer (some ⟨g1_, o1_ + k * 3, none⟩)), Pd.eq (.agg #[.bool (ngB x.num), .slice Ae1 (digs 4294967296 x.num.natAbs).length ce1, .slice De1 (digs 4294967296 x.den).length ee1]), pn 36 #[.bool false, .slice none 0 0, .slice none 0 0] wr.heap.size] (by kernel_rfl) ?ob2 ?done2
        case ob2 =>
          refine And.intro (ob_indexAddr rfl (wt_none rfl) (ev_far rfl rfl) (ev_far rfl rfl) (fun _ _ _ hx hy => ⟨_, by rw [hx, hy]; exact index3 Tryz.underlying53 (by kernel_rfl) hlt _, rfl⟩)) ?_
          refine And.intro (ob_load rfl (wt_none rfl) (ev_dep (j := 0) (by kernel_rfl) rfl rfl) (fun w2 hb => load3 Tryz.underlying36 rfl (by kernel_rfl) ((hb.cell (World.block_lt_of_cell? wr _ e10)).trans e10) ((hb.cell (World.block_lt_of_cell? wr _ e11)).trans e11) ((hb.cell (World.block_lt_of_cell? wr _ e12)).trans e12)) (fun _ _ => rfl)) ?_
          refine And.intro (ob_alloc (z := .agg #[.bool false, .slice none 0 0, .slice none 0 0]) rfl rfl (fun _ => by kernel_rfl) (fun _ _ hB h => ⟨_, rfl, hB, h⟩)) ?_
          trivial
        case done2 =>
          refine fun w13 hb13 v0 h0 v1 h1 v2 h2 d2 b hbf => ?_
          obtain rfl := h0; obtain rfl := h1
          obtain ⟨g2_2, rfl, hg2, B2⟩ := h2
          simp only [Act.put, List.setIfInBounds_toArray, List.set_cons_zero, List.set_cons_succ] at hbf
          subst hbf
          replace es1 := es1.below hb13
          replace ed1 := ed1.below hb13
          replace bb := bb.trans (hb13.mono bb.size)
          have hsz13 := bb.size
          replace bl := bl.trans (hb13.mono bl.size)
          have BA6 := B2
          have q1 := es1
          have d1 := ed1
          refine ops_store (i := 3) rfl rfl rfl rfl rfl rfl (cells := [.bool (ngB (x).num), .slice Ae1 (digs 4294967296 (x).num.natAbs).length ce1, .slice De1 (digs 4294967296 (x).den).length ee1]) rfl BA6 rfl (by kernel_rfl) (one3 rfl rfl rfl) fun w14 hg14 BN14 => ?_
          replace q1 := off q1 BA6 no_ints3 hg14
          replace d1 := off d1 BA6 no_ints3 hg14
          replace bb := bb.trans ((Below.refl _ _).grown hg14 bb.size (fun g hg => by injection hg with hg; omega))
          have hsz14 := bb.size
          have Be1 : Blk w14 (g2_2) _ _ := BN14
          have ke1s := q1
          have ke1d := d1
          have ke1z : IsZ w14 (.agg #[.bool (ngB (x).num), .slice Ae1 (digs 4294967296 (x).num.natAbs).length ce1]) ((x).num) := ⟨_, rfl, ke1s⟩
          have ke1 : IsQ w14 (.agg #[.bool (ngB (x).num), .slice Ae1 (digs 4294967296 (x).num.natAbs).length ce1, .slice De1 (digs 4294967296 (x).den).length ee1]) (x) := ⟨_, _, rfl, ke1s, ke1d⟩
          refine ops_done ?_
          replace bl := bl.trans ((Below.refl _ _).grown hg14 bl.size (fun g hg => by injection hg with hg; omega))
          have nR := (hR.below bl).under
          have hsl := bl.size
          have sB := bb.size
          go_upto_region 4 with (fail)
          refine flowp 4 [Pd.eq (.slice AR (ps ++ new).length cR), Pd.eq (.agg #[.bool (ngB (x).num), .slice Ae1 (digs 4294967296 (x).num.natAbs).length ce1, .slice De1 (digs 4294967296 (x).den).length ee1]), pq (x) w14.heap.size, pone (pq (x) w14.heap.size)] (by kernel_rfl) ?ob3 ?done3
          case ob3 =>
            refine And.intro (ob_move rfl (wt_none rfl) (ev_far rfl rfl) (fun _ _ h => h)) ?_
            refine And.intro (ob_load rfl (wt_none rfl) (ev_far rfl rfl) (fun w2 hb => run_loadAll Tryz.underlying36 rfl (by kernel_rfl) (Be1.below hb)) (fun _ _ => rfl)) ?_
            refine And.intro (ob_call1 rfl Tryz.func64 (by kernel_rfl) (wt_none rfl) (ev_dep (j := 1) (by kernel_rfl) rfl rfl) (fun w2 u0 hb h0 => by obtain rfl := h0; exact (mcopied_any _ x _ (ke1.below hb) lx).mono fun e w3 h => RetQ.pd h hb.size)) ?_
            refine And.intro (ob_build_q (φ := pq (x) w14.heap.size) rfl rfl (ev_dep (j := 2) (by kernel_rfl) rfl rfl) Tryz.underlying53 info_rat (fun w v h => ⟨h, by obtain ⟨⟨u, t, rfl, hu, ht⟩, _⟩ := h; obtain ⟨_, _, rfl, _⟩ := id hu; obtain ⟨_, _, rfl, _⟩ := id ht; exact ⟨_, _, _, rfl, rfl, rfl, rfl⟩⟩) (fun _ _ h => h)) ?_
            trivial
          case done3 =>
            refine fun w15 hb15 v0 h0 v1 h1 v2 h2 v3 h3 b hbf => ?_
            obtain rfl := h0; obtain rfl := h1
            obtain ⟨q2, f2⟩ := h2
            obtain ⟨g3_, x3, y3, z3, rfl, c30, c31, c32, K3⟩ := h3
            simp only [Act.put, List.setIfInBounds_toArray, List.set_cons_zero, List.set_cons_succ] at hbf
            subst hbf
            replace Be1 := Be1.below hb15
            replace ke1s := ke1s.below hb15
            replace ke1d := ke1d.below hb15
            replace ke1z := ke1z.below hb15
            replace ke1 := ke1.below hb15
            replace bb := bb.trans (hb15.mono bb.size)
            have hsz15 := bb.size
            replace bl := bl.trans (hb15.mono bl.size)
            have s_2 := sB
            have hR4 := hR.below bl
            have hF4 := hF.below bl
            have hsz4 := bb.size
            have HL8 : Hid ((ps ++ new).length ≤ 1000000000) := by show _ ≤ _; rw [List.length_append, HNL.out]; omega
            obtain ⟨⟨uE, tE, eE, sE, dE⟩, fE⟩ := K3
            obtain ⟨rfl, rfl, rfl⟩ : x3 = .bool (ngB (x).num) ∧ y3 = uE ∧ z3 = tE := by injection eE with eE; simpa using eE
            clear eE
            obtain ⟨AE, cE, rfl, _⟩ := id sE
            obtain ⟨DE, rE, rfl, _⟩ := id dE
            refine ops_append_q (i := 4) (.tmp 13) (.tmp 16) rfl rfl rfl Tryz.underlying53 info_rat (p := (x, .slice AE (digs 4294967296 (x).num.natAbs).length cE, .slice DE (digs 4294967296 (x).den).length rE)) (ps := (ps ++ new)) rfl hR4 rfl c30 c31 c32 rfl rfl HL8.out hsz4 fun v8 w8 b8 row8 bb8 HK8 hb8 => ?_
            simp only [Act.put, List.setIfInBounds_toArray, List.set_cons_zero, List.set_cons_succ] at hb8
            subst hb8
            have EC : IsE .u64 4294967296 w15 ((x, .slice AE (digs 4294967296 (x).num.natAbs).length cE, .slice DE (digs 4294967296 (x).den).length rE) : Elt) := ⟨sE, dE⟩
            have F8 := hF4.snoc HK8.out.1 EC ((fE _ _ _ rfl).1.far nR) ((fE _ _ _ rfl).2.far nR)
            have NN8 := hN.snoc ((fE _ _ _ rfl).1.mono (show W.heap.size ≤ _ by omega)) ((fE _ _ _ rfl).2.mono (show W.heap.size ≤ _ by omega)) (p := (x, .slice AE (digs 4294967296 (x).num.natAbs).length cE, .slice DE (digs 4294967296 (x).den).length rE))
            refine ops_assign (i := 5) (v8) rfl rfl rfl rfl rfl fun b hbf => ?_
            simp only [Act.put, List.setIfInBounds_toArray, List.set_cons_zero, List.set_cons_succ] at hbf
            subst hbf
            refine ops_done ?_
            have HM8 : Hid ((new ++ [((x, .slice AE (digs 4294967296 (x).num.natAbs).length cE, .slice DE (digs 4294967296 (x).den).length rE) : Elt)]).map (·.1) = r.take (k + 1)) := by
              show _ = _
              rw [List.map_append, HM.out, take_snoc HQ1.out]
              rfl
            have HG8 : Hid (Grew W w8 (.slice A0 ps.length c0) v8) := (HG.out.trans (Grew.of_below _ bl)).trans HK8.out
            have b8 := bb.trans bb8
            rw [List.append_assoc] at row8
            clear HK8 EC fE hR hF hR4 hF4 hN
            have hsk : r.length - (k + 1) < r.length - k := by omega
            go_wp2
            go_roundw
            case rel => exact ⟨k + 1, _, by omega, row8, HM8, HG8, F8, NN8, b8, by go_num⟩
            case measure => simp [intOf]; omega
      · have HME : Hid (new.map (·.1) = r) := by show _ = _; rw [HM.out, List.take_of_length_le (by omega)]
        have hbW : Below w.heap.size W wr := (Below.refl _ W).grown HG.out.2.1 hbase hbl
        clear HM
        go_wp2
        go_ret
        exact ⟨_, new, rfl, hR, HME.out, HG.out, hF, hN, hbW⟩
/-- The program's tables whose rows the call owns. -/
abbrev TabR (w : World) (base : Nat) (V : Value) (us : List Value) (pss : List (List Elt)) : Prop := TabO .u64 4294967296 36 w base 53 V us pss
def RetJoin (base g n c : Nat) (J : List (List Rat)) (w : World) (e : Ending) (w' : World) : Prop := ∃ us pss, e = .returned (.slice (some ⟨g, 0, none⟩) n c) ∧ TabR w' base (.slice (some ⟨g, 0, none⟩) n c) us pss ∧ valq pss = J ∧ us.length = n ∧ Below base w w'
set_option maxHeartbeats 3200000 in
set_option maxRecDepth 100000 in
theorem mjoined_any (g n c : Nat) (a1 : Value) (us : List Value) (pss : List (List Elt)) (t : List (List Rat)) (w W : World) (h0 : TabR W w.heap.size (.slice (some ⟨g, 0, none⟩) n c) us pss) (h1 : SlT .u64 4294967296 w a1 t) (hb : Below w.heap.size w W) (hu : us.length = n) (ht : t.length = n) (hgw : w.heap.size ≤ g)
    (hl : (∀ r ∈ valq pss, r.length ≤ 1000) ∧ (∀ r ∈ t, r.length ≤ 1000) ∧ lenT t 100000) :
    Calls Tryz.prog 66 #[.slice (some ⟨g, 0, none⟩) n c, a1] W (RetJoin w.heap.size g n c (joinq (valq pss) t) W) := by
  have st1 := h1
  obtain ⟨A1, c1, rfl, hc1, hm1⟩ := h1.shape
  unfold maxLen at hm1
  have HL := Lib.hid hl
  have HTN := Lib.hid ht
  have HUN := Lib.hid hu
  have HPT : Hid ((valq pss).length = t.length) := by show _ = _; rw [valq_len, ← h0.len, hu, ht]
  clear hl ht hu
  go_enter Tryz.func66, Tryz.ntmps66
  go_wp2
  go_loopw [9] (fun v9 wr => ∃ (k : Nat) (us' : List Value) (pss' : List (List Elt)), k ≤ t.length ∧ TabR wr w.heap.size (.slice (some ⟨g, 0, none⟩) n c) us' pss' ∧ Hid (valq pss' = jst (valq pss) t k) ∧ us'.length = n ∧ Below w.heap.size W wr ∧ v9 = .int .i64 (k : Int)) (fun v9 _ => t.length - (intOf v9).toNat)
  case atStart => exact ⟨0, us, pss, by omega, h0, by show _ = _; rw [jst_zero], HUN.out, Below.refl _ _, rfl⟩
  case round =>
    obtain ⟨k, us', pss', hk, hT, HJ, hul, hbW, rfl⟩ := hrel
    have HUL := Lib.hid hul
    clear hul
    have bb : Below w.heap.size w wr := hb.trans hbW
    by_cases hlt : k < t.length
    · have hnt : t ≠ [] := List.length_pos_iff.1 (by omega)
      obtain ⟨x, hx⟩ : ∃ x, t[k]? = some x := ⟨_, List.getElem?_eq_getElem hlt⟩
      have HX := Lib.hid hx
      have hxm := List.mem_of_getElem? hx
      obtain ⟨ad, rfl⟩ := st1.place hnt
      obtain ⟨Ax, cx, hi, ewx, srx⟩ := st1.at2 hx
      have ecx := (bb.cell (World.block_lt_of_cell? w _ ewx)).trans ewx
      have hkn : k < n := by have := HTN.out; omega
      obtain ⟨u, hu'⟩ : ∃ u, us'[k]? = some u := ⟨_, List.getElem?_eq_getElem (by have := HUL.out; omega)⟩
      obtain ⟨ps, hps⟩ : ∃ ps, pss'[k]? = some ps := ⟨_, List.getElem?_eq_getElem (by rw [← hT.len]; have := HUL.out; omega)⟩
      have HU := Lib.hid hu'
      have HPS := Lib.hid hps
      obtain ⟨p, hp⟩ : ∃ p, (valq pss)[k]? = some p := ⟨_, List.getElem?_eq_getElem (by rw [HPT.out]; exact hlt)⟩
      have HP : Hid (ps.map (·.1) = p) := by
        have h2 := valq_at hps
        rw [HJ.out, jst_at HPT.out hp] at h2
        exact (Option.some.inj h2).symm
      have HJ2 : Hid ((jst (valq pss) t k).set k (p ++ x) = jst (valq pss) t (k + 1)) := jst_set HPT.out hp hx
      have hpl : ps.length ≤ 1000 := by
        have h2 := congrArg List.length HP.out
        rw [List.length_map] at h2
        rw [h2]
        exact HL.out.1 p (List.mem_of_getElem? hp)
      have hown := hT.own k u ps hu' hps
      have lxl : x.length ≤ 1000 := HL.out.2.1 x hxm
      have lx : ∀ y ∈ x, lenQ y 100000 := HL.out.2.2 x hxm
      have hcell := hT.cell hu'
      obtain ⟨Au, cu, eu, hcu⟩ := hown.isVF
      subst eu
      have HT := Lib.hid hT
      clear hx hxm hu' hps hp hT
      go_wp2_with fail
      refine (mappended_any _ _ ps x w wr hown srx bb ⟨hpl, lxl, lx⟩).mono ?_
      rintro e w2 ⟨u2, new, rfl, hrow, hmap, hgr, hfar, hnew, b2⟩
      have hV := HT.out.mid (by decide) HU.out HPS.out hgr
      have hc2 := hV.cellAt HU.out
      have hf2 := hV.frozenAt k
      have hT2 := HT.out.put (by decide) HU.out HPS.out hrow hgr hfar (fun v hv q hq => by
        have h2 := HT.out.farNew ((hnew q hq).1)
        have h3 := HT.out.farNew ((hnew q hq).2)
        exact ⟨h2.1 v hv, h3.1 v hv⟩) (fun q hq => ⟨(HT.out.farNew ((hnew q hq).1)).2, (HT.out.farNew ((hnew q hq).2)).2⟩)
      obtain ⟨A2, c2, e2, hc2'⟩ := hrow.isVF
      rw [List.length_append] at e2
      subst e2
      have HJ3 : Hid (valq (pss'.set k (ps ++ new)) = jst (valq pss) t (k + 1)) := by
        show _ = _
        rw [valq_set, HJ.out, List.map_append, HP.out, hmap, HJ2.out]
      have hul2 : (us'.set k (.slice A2 (ps.length + new.length) c2)).length = n := by rw [List.length_set]; exact HUL.out
      have hb3 := (hbW.trans b2).setCell (p := ⟨g, k, none⟩) hgw (.slice A2 (ps.length + new.length) c2)
      have hsk : t.length - (k + 1) < t.length - k := by omega
      clear hrow hgr hfar hnew hV hown ecx hcell
      go_wp2
      go_roundw
      case rel => exact ⟨k + 1, _, _, by omega, hT2, HJ3, hul2, hb3, by go_num⟩
      case measure => simp [intOf]; omega
    · have HJE : Hid (valq pss' = joinq (valq pss) t) := by show _ = _; rw [HJ.out, jst_full HPT.out (by omega)]
      go_wp2
      go_ret
      exact ⟨us', pss', rfl, hT, HJE.out, HUL.out, hbW⟩
set_option maxHeartbeats 6400000 in
set_option maxRecDepth 100000 in
theorem mturned_any (a0 : Value) (t : List (List Rat)) (w : World) (h0 : SlT .u64 4294967296 w a0 t) (hl : t.length ≤ 1000 ∧ wideq t ≤ 1000 ∧ evenq t ∧ lenT t 100000) :
    Calls Tryz.prog 69 #[a0] w (RetSlT .u64 4294967296 (turnq t) w) := by
  have bb : Below w.heap.size w w := Below.refl _ _
  have st0 := h0
  obtain ⟨A0, c0, rfl, hc0, hm0⟩ := h0.shape
  unfold maxLen at hm0
  have HL := Lib.hid hl
  have ht2 : t.length ≤ 1000 := hl.1
  have hw2 : wideq t ≤ 1000 := hl.2.1
  clear hl
  go_enter Tryz.func69, Tryz.ntmps69
  go_upto_region 1 with (fail)
  have hsz0 := bb.size
  have sB := bb.size
  refine flowp 7 [Pd.eq (.slice A0 t.length c0), Pd.eq (.tuple #[.int .i64 ((t.length : Nat) : Int), .int .i64 ((wideq t : Nat) : Int)]), Pd.eq (.tuple #[.int .i64 ((t.length : Nat) : Int), .int .i64 ((wideq t : Nat) : Int)]), Pd.eq (.int .i64 ((t.length : Nat) : Int)), Pd.eq (.int .i64 ((wideq t : Nat) : Int)), Pd.eq (.int .i64 ((t.length : Nat) : Int)), Pd.eq (.int .i64 ((wideq t : Nat) : Int))] (by kernel_rfl) ?ob1 ?done1
  case ob1 =>
    refine And.intro (ob_move rfl (wt_none rfl) (ev_far rfl rfl) (fun _ _ h => h)) ?_
    refine And.intro (ob_call1 rfl Tryz.func24 (by kernel_rfl) (wt_none rfl) (ev_dep (j := 0) (by kernel_rfl) rfl rfl) (fun w2 u0 hb h0 => by obtain rfl := h0; exact (msize_any _ t _ ((st0.below bb).below hb)).mono fun e w3 h => RetV.pd h)) ?_
    refine And.intro (ob_move rfl (wt_none rfl) (ev_dep (j := 1) (by kernel_rfl) rfl rfl) (fun _ _ h => h)) ?_
    refine And.intro (ob_extract rfl (wt_none rfl) (ev_dep (j := 2) (by kernel_rfl) rfl rfl) (fun w2 u hu => by obtain rfl := hu; exact ⟨_, rfl, rfl⟩)) ?_
    refine And.intro (ob_extract rfl (wt_none rfl) (ev_dep (j := 2) (by kernel_rfl) rfl rfl) (fun w2 u hu => by obtain rfl := hu; exact ⟨_, rfl, rfl⟩)) ?_
    refine And.intro (ob_assign rfl (wt_none rfl) (ev_dep (j := 3) (by kernel_rfl) rfl rfl) (fun _ _ h => h)) ?_
    refine And.intro (ob_assign rfl (wt_none rfl) (ev_dep (j := 4) (by kernel_rfl) rfl rfl) (fun _ _ h => h)) ?_
    trivial
  case done1 =>
    refine fun w11 hb11 v0 h0 v1 h1 v2 h2 v3 h3 v4 h4 v5 h5 v6 h6 b hbf => ?_
    obtain rfl := h0; obtain rfl := h1; obtain rfl := h2; obtain rfl := h3; obtain rfl := h4; obtain rfl := h5; obtain rfl := h6
    simp only [Act.put, List.setIfInBounds_toArray, List.set_cons_zero, List.set_cons_succ] at hbf
    subst hbf
    replace bb := bb.trans (hb11.mono bb.size)
    have hsz11 := bb.size
    refine ops_done ?_
    have sB := bb.size
    go_upto_region 2 with (fail)
    refine flowp 3 [Pd.eq (.int .i64 ((wideq t : Nat) : Int)), pbar (wideq t) 53 w11.heap.size, pbar (wideq t) 53 w11.heap.size] (by kernel_rfl) ?ob2 ?done2
    case ob2 =>
      refine And.intro (ob_move rfl (wt_none rfl) (ev_far rfl rfl) (fun _ _ h => h)) ?_
      refine And.intro (ob_call1 rfl Tryz.func63 (by kernel_rfl) (wt_none rfl) (ev_dep (j := 0) (by kernel_rfl) rfl rfl) (fun w2 u0 hb h0 => by obtain rfl := h0; exact (mbare_any _ ((wideq t)) _ rfl (by omega)).mono fun e w3 h => RetBar.pd h hb.size)) ?_
      refine And.intro (ob_assign rfl (wt_none rfl) (ev_dep (j := 1) (by kernel_rfl) rfl rfl) (fun _ _ h => h)) ?_
      trivial
    case done2 =>
      refine fun w12 hb12 v0 h0 v1 h1 v2 h2 b hbf => ?_
      obtain rfl := h0
      have q1 := h1
      have q2 := h2
      simp only [Act.put, List.setIfInBounds_toArray, List.set_cons_zero, List.set_cons_succ] at hbf
      subst hbf
      replace bb := bb.trans (hb12.mono bb.size)
      have hsz12 := bb.size
      refine ops_done ?_
      obtain ⟨g, rfl, TB, hg⟩ := q2
      have hgw : w.heap.size ≤ g := by omega
      have hT0 : TabR w12 w.heap.size (.slice (some ⟨g, 0, none⟩) (wideq t) (wideq t)) (List.replicate (wideq t) (.slice none 0 0)) (List.replicate (wideq t) []) := TB.owned hgw (by omega)
      clear TB
      go_wp2
      go_loopw [19] (fun v19 wr => ∃ (k : Nat) (us : List Value) (pss : List (List Elt)), k ≤ t.length ∧ TabR wr w.heap.size (.slice (some ⟨g, 0, none⟩) (wideq t) (wideq t)) us pss ∧ Hid (valq pss = tst t k 0) ∧ Hid (us.length = wideq t) ∧ Below w.heap.size w wr ∧ v19 = .int .i64 (k : Int)) (fun v19 _ => t.length - (intOf v19).toNat)
      case atStart => exact ⟨0, _, _, by omega, hT0, by show _ = _; rw [valq_nil, tst_zero], by show _ = _; simp, bb, rfl⟩
      case round =>
        obtain ⟨k, us, pss, hk, hT, HV, HUL, hbw, rfl⟩ := hrel
        clear hT0 bb
        have bb := hbw
        clear hbw
        have hszr := bb.size
        by_cases hlt : k < t.length
        · have hnt : t ≠ [] := List.length_pos_iff.1 (by omega)
          obtain ⟨x, hx⟩ : ∃ x, t[k]? = some x := ⟨_, List.getElem?_eq_getElem hlt⟩
          have HX := Lib.hid hx
          have hxm := List.mem_of_getElem? hx
          have HXL : Hid (x.length = wideq t) := HL.out.2.2.1 x hxm
          have lx : ∀ y ∈ x, lenQ y 100000 := HL.out.2.2.2 x hxm
          obtain ⟨ad0, rfl⟩ := st0.place hnt
          obtain ⟨Arx, crx, hix, ewx, srx⟩ := st0.at2 hx
          clear hx hxm
          have ecx := (bb.cell (World.block_lt_of_cell? w _ ewx)).trans ewx
          have bl : Below wr.heap.size wr wr := Below.refl _ _
          have sB := bb.size
          go_upto_region 5 with (fail)
          refine flowp 3 [Pd.eq (.pointer (some (ad0.add k))), Pd.eq (.slice Arx x.length crx), Pd.eq (.slice Arx x.length crx)] (by kernel_rfl) ?ob3 ?done3
          case ob3 =>
            refine And.intro (ob_indexAddr rfl (wt_none rfl) (ev_far rfl rfl) (ev_far rfl rfl) (fun _ _ _ hx hy => ⟨_, by rw [hx, hy]; exact index1_any (k := k) Tryz.underlying52 (by kernel_rfl) ad0 hlt _, rfl⟩)) ?_
            refine And.intro (ob_load rfl (wt_none rfl) (ev_dep (j := 0) (by kernel_rfl) rfl rfl) (fun w2 hb => run_load1 Tryz.underlying53 rfl ((hb.cell (World.block_lt_of_cell? wr _ ecx)).trans ecx)) (fun _ _ => rfl)) ?_
            refine And.intro (ob_assign rfl (wt_none rfl) (ev_dep (j := 1) (by kernel_rfl) rfl rfl) (fun _ _ h => h)) ?_
            trivial
          case done3 =>
            refine fun w14 hb14 v0 h0 v1 h1 v2 h2 b hbf => ?_
            obtain rfl := h0; obtain rfl := h1; obtain rfl := h2
            simp only [Act.put, List.setIfInBounds_toArray, List.set_cons_zero, List.set_cons_succ] at hbf
            subst hbf
            replace bb := bb.trans (hb14.mono bb.size)
            have hsz14 := bb.size
            replace bl := bl.trans (hb14.mono bl.size)
            refine ops_done ?_
            clear ecx
            have sB := bb.size
            go_upto_region 6 with (fail)
            refine flowp 3 [Pd.eq (.slice Arx x.length crx), Pd.eq (.int .i64 ((x.length : Nat) : Int)), Pd.eq (.int .i64 0)] (by kernel_rfl) ?ob4 ?done4
            case ob4 =>
              refine And.intro (ob_move rfl (wt_none rfl) (ev_far rfl rfl) (fun _ _ h => h)) ?_
              refine And.intro (ob_len rfl (wt_none rfl) (ev_dep (j := 0) (by kernel_rfl) rfl rfl) (fun _ _ hx => ⟨_, by rw [hx]; exact len_slice Tryz.underlying53 _ _ _ _, rfl⟩)) ?_
              refine And.intro (ob_move rfl (wt_none rfl) (ev_const _) (fun _ _ h => h)) ?_
              trivial
            case done4 =>
              refine fun w15 hb15 v0 h0 v1 h1 v2 h2 b hbf => ?_
              obtain rfl := h0; obtain rfl := h1; obtain rfl := h2
              simp only [Act.put, List.setIfInBounds_toArray, List.set_cons_zero, List.set_cons_succ] at hbf
              subst hbf
              replace bb := bb.trans (hb15.mono bb.size)
              have hsz15 := bb.size
              replace bl := bl.trans (hb15.mono bl.size)
              refine ops_done ?_
              have hT1 := hT.below bl
              go_wp2
              go_loopw [25] (fun v25 wr => ∃ (i : Nat) (us' : List Value) (pss' : List (List Elt)), i ≤ x.length ∧ TabR wr w.heap.size (.slice (some ⟨g, 0, none⟩) (wideq t) (wideq t)) us' pss' ∧ Hid (valq pss' = tst t k i) ∧ Hid (us'.length = wideq t) ∧ Below w.heap.size w wr ∧ v25 = .int .i64 (i : Int)) (fun v25 _ => x.length - (intOf v25).toNat)
              case atStart => exact ⟨0, _, _, by omega, hT1, HV, HUL, bb, rfl⟩
              case round =>
                obtain ⟨i, us', pss', hi, hTi, HVi, HULi, hbw, rfl⟩ := hrel
                clear hT1 hT bb bl HV HUL
                have bb := hbw
                clear hbw
                have hszi := bb.size
                by_cases hlti : i < x.length
                · have bl : Below wr.heap.size wr wr := Below.refl _ _
                  have hxne : x ≠ [] := List.length_pos_iff.1 (by omega)
                  have sl9 := srx
                  obtain ⟨y, hq9_⟩ : ∃ y, x[i]? = some y := ⟨_, List.getElem?_eq_getElem hlti⟩
                  obtain ⟨g9_, o9_, ue9, te9, hA9_, _, e90, e91, e92, es9, ed9⟩ := (sl9.below bb).at_ hq9_
                  subst hA9_
                  have HQ9 := Lib.hid hq9_
                  clear hq9_
                  obtain ⟨Ae9, ce9, rfl, _⟩ := id es9
                  obtain ⟨De9, ee9, rfl, _⟩ := id ed9
                  have ke9 : IsQ wr (.agg #[.bool (ngB y.num), .slice Ae9 (digs 4294967296 y.num.natAbs).length ce9, .slice De9 (digs 4294967296 y.den).length ee9]) y := ⟨_, _, rfl, es9, ed9⟩
                  have sB := bb.size
                  go_upto_region 8 with (fail)
                  refine flowp 5 [Pd.eq (.int .i64 (i : Int)), Pd.eq (.pointer (some ⟨g9_, o9_ + i * 3, none⟩)), Pd.eq (.agg #[.bool (ngB y.num), .slice Ae9 (digs 4294967296 y.num.natAbs).length ce9, .slice De9 (digs 4294967296 y.den).length ee9]), pn 36 #[.bool false, .slice none 0 0, .slice none 0 0] wr.heap.size, Pd.eq (.int .i64 (i : Int))] (by kernel_rfl) ?ob5 ?done5
                  case ob5 =>
                    refine And.intro (ob_move rfl (wt_none rfl) (ev_far rfl rfl) (fun _ _ h => h)) ?_
                    refine And.intro (ob_indexAddr rfl (wt_none rfl) (ev_far rfl rfl) (ev_far rfl rfl) (fun _ _ _ hx hy => ⟨_, by rw [hx, hy]; exact index3 Tryz.underlying53 (by kernel_rfl) hlti _, rfl⟩)) ?_
                    refine And.intro (ob_load rfl (wt_none rfl) (ev_dep (j := 1) (by kernel_rfl) rfl rfl) (fun w2 hb => load3 Tryz.underlying36 rfl (by kernel_rfl) ((hb.cell (World.block_lt_of_cell? wr _ e90)).trans e90) ((hb.cell (World.block_lt_of_cell? wr _ e91)).trans e91) ((hb.cell (World.block_lt_of_cell? wr _ e92)).trans e92)) (fun _ _ => rfl)) ?_
                    refine And.intro (ob_alloc (z := .agg #[.bool false, .slice none 0 0, .slice none 0 0]) rfl rfl (fun _ => by kernel_rfl) (fun _ _ hB h => ⟨_, rfl, hB, h⟩)) ?_
                    refine And.intro (ob_assign rfl (wt_none rfl) (ev_dep (j := 0) (by kernel_rfl) rfl rfl) (fun _ _ h => h)) ?_
                    trivial
                  case done5 =>
                    refine fun w17 hb17 v0 h0 v1 h1 v2 h2 v3 h3 d3 v4 h4 b hbf => ?_
                    obtain rfl := h0; obtain rfl := h1; obtain rfl := h2; obtain rfl := h4
                    obtain ⟨g5_3, rfl, hg3, B3⟩ := h3
                    simp only [Act.put, List.setIfInBounds_toArray, List.set_cons_zero, List.set_cons_succ] at hbf
                    subst hbf
                    replace es9 := es9.below hb17
                    replace ed9 := ed9.below hb17
                    replace bb := bb.trans (hb17.mono bb.size)
                    have hsz17 := bb.size
                    replace bl := bl.trans (hb17.mono bl.size)
                    have BA9 := B3
                    have q2 := es9
                    have d2 := ed9
                    refine ops_store (i := 5) rfl rfl rfl rfl rfl rfl (cells := [.bool (ngB (y).num), .slice Ae9 (digs 4294967296 (y).num.natAbs).length ce9, .slice De9 (digs 4294967296 (y).den).length ee9]) rfl BA9 rfl (by kernel_rfl) (one3 rfl rfl rfl) fun w18 hg18 BN18 => ?_
                    replace q2 := off q2 BA9 no_ints3 hg18
                    replace d2 := off d2 BA9 no_ints3 hg18
                    replace bb := bb.trans ((Below.refl _ _).grown hg18 bb.size (fun g hg => by injection hg with hg; omega))
                    have hsz18 := bb.size
                    have Be9 : Blk w18 (g5_3) _ _ := BN18
                    have ke9s := q2
                    have ke9d := d2
                    have ke9z : IsZ w18 (.agg #[.bool (ngB (y).num), .slice Ae9 (digs 4294967296 (y).num.natAbs).length ce9]) ((y).num) := ⟨_, rfl, ke9s⟩
                    have ke9 : IsQ w18 (.agg #[.bool (ngB (y).num), .slice Ae9 (digs 4294967296 (y).num.natAbs).length ce9, .slice De9 (digs 4294967296 (y).den).length ee9]) (y) := ⟨_, _, rfl, ke9s, ke9d⟩
                    refine ops_done ?_
                    replace bl := bl.trans ((Below.refl _ _).grown hg18 bl.size (fun g hg => by injection hg with hg; omega))
                    have ly : lenQ y 100000 := lx y (List.mem_of_getElem? HQ9.out)
                    have hiw : i < wideq t := by have := HXL.out; omega
                    obtain ⟨u, hu⟩ : ∃ u, us'[i]? = some u := ⟨_, List.getElem?_eq_getElem (by have := HULi.out; omega)⟩
                    obtain ⟨ps, hps⟩ : ∃ ps, pss'[i]? = some ps := ⟨_, List.getElem?_eq_getElem (by rw [← hTi.len]; have := HULi.out; omega)⟩
                    have HU := Lib.hid hu
                    have HPS := Lib.hid hps
                    have HP : Hid (ps.map (·.1) = colq (t.take k) i) := by
                      have h2 := valq_at hps
                      rw [HVi.out, tst_self hiw] at h2
                      exact (Option.some.inj h2).symm
                    have HST : Hid ((tst t k i).set i (colq (t.take k) i ++ [y]) = tst t k (i + 1)) := tst_set hiw HX.out HQ9.out
                    have HL8 : Hid (ps.length ≤ 1000000000) := by
                      have h2 := congrArg List.length HP.out
                      rw [List.length_map, colq_len, List.length_take] at h2
                      show _ ≤ _
                      omega
                    have bd := bl.drew
                    have TD := hTi.below bd
                    obtain ⟨Au, cu, eu, _⟩ := (TD.own i u ps hu hps).isVF
                    subst eu
                    have cD := TD.cell hu
                    have fD := TD.frozen i
                    have TDH := Lib.hid TD
                    have K_ := Lib.hid ke9
                    have Be9d : Blk w18.drew _ _ _ := Be9.drew
                    obtain ⟨x90, x91, x92, _, _, _⟩ := three Be9d
                    have hszD : w.heap.size ≤ w18.drew.heap.size := by have := bb.size; exact this
                    have ks_ := (ke9s).below (Below.refl _ w18).drew
                    have kd_ := (ke9d).below (Below.refl _ w18).drew
                    clear hu hps TD hTi
                    go_upto_region 9 with (fail)
                    go_region_law (first
                      | (refine step_append_q rfl (.tmp 35) (.tmp 38) rfl Tryz.underlying53 info_rat (v := .slice Au ps.length cu) (p := (y, .slice A6 (digs 4294967296 (y).num.natAbs).length c6, .slice D6 (digs 4294967296 (y).den).length e6)) (ps := ps) (by rfl) (by exact rC) (ad := ⟨w6.heap.size, 0, none⟩) (c := 1) (by rfl) (by exact cC0) (by exact cC1) (by exact cC2) rfl rfl HL8.out (by exact hszC) ?_; intro v7 w7 row7 bb7 HK7; have hV7 := TC.mid (by decide) HU.out HPS.out HK7.out; have c7 := hV7.cellAt HU.out; have f7 := hV7.frozenAt i; obtain ⟨A7, c7_, e7, _⟩ := row7.isVF; rw [List.length_append] at e7; subst e7)
                      | (go_simp; go_at_call 64; refine (mcopied_any _ y _ ⟨_, _, rfl, (by exact ks_), (by exact kd_)⟩ ly).mono ?_; rintro e w6 ⟨v6, rfl, k6, f6, b6⟩; have T6 := TDH.out.below b6; have cell6 := T6.cell HU.out; obtain ⟨u6, t6, rfl, q6, d6⟩ := k6; obtain ⟨A6, c6, rfl, _⟩ := id q6; obtain ⟨D6, e6, rfl, _⟩ := id d6; obtain ⟨cC0, cC1, cC2⟩ := new_cells w6 36 (.bool (ngB (y).num)) (.slice A6 (digs 4294967296 (y).num.natAbs).length c6) (.slice D6 (digs 4294967296 (y).den).length e6); have ba6 := below_alloc (w := w6) (Nat.le_refl _) (.cells #[.bool (ngB (y).num), .slice A6 (digs 4294967296 (y).num.natAbs).length c6, .slice D6 (digs 4294967296 (y).den).length e6] 36); have TC := T6.below ba6; have rC := TC.own i _ ps HU.out HPS.out; have hszC : w.heap.size ≤ (w6.alloc (.cells #[.bool (ngB (y).num), .slice A6 (digs 4294967296 (y).num.natAbs).length c6, .slice D6 (digs 4294967296 (y).den).length e6] 36)).heap.size := Nat.le_trans (Nat.le_trans hszD b6.size) ba6.size; have cellC := TC.cell HU.out))
                    all_goals
                      have fr1 := TDH.out.farNew (f6 _ _ _ rfl).1
                      have fr2 := TDH.out.farNew (f6 _ _ _ rfl).2
                      have hum := List.mem_of_getElem? HU.out
                      have EC : IsE .u64 4294967296 (w6.alloc (.cells #[.bool (ngB (y).num), .slice A6 (digs 4294967296 (y).num.natAbs).length c6, .slice D6 (digs 4294967296 (y).den).length e6] 36)) ((y, .slice A6 (digs 4294967296 (y).num.natAbs).length c6, .slice D6 (digs 4294967296 (y).den).length e6) : Elt) := ⟨q6.below ba6, d6.below ba6⟩
                      have F7 := (FarF.nil .u64 4294967296 (w6.alloc (.cells #[.bool (ngB (y).num), .slice A6 (digs 4294967296 (y).num.natAbs).length c6, .slice D6 (digs 4294967296 (y).den).length e6] 36)) (.slice Au ps.length cu)).snoc HK7.out.1 EC (fr1.1 _ hum) (fr2.1 _ hum)
                      have T8 := TC.put (by decide) HU.out HPS.out row7 HK7.out F7 (fun v hv q hq => by rw [List.mem_singleton.1 hq]; exact ⟨fr1.1 v hv, fr2.1 v hv⟩) (fun q hq => by rw [List.mem_singleton.1 hq]; exact ⟨fr1.2, fr2.2⟩)
                      have HV8 : Hid (valq (pss'.set i (ps ++ [((y, .slice A6 (digs 4294967296 (y).num.natAbs).length c6, .slice D6 (digs 4294967296 (y).den).length e6) : Elt)])) = tst t k (i + 1)) := by
                        show _ = _
                        rw [valq_set, HVi.out, List.map_append, HP.out]
                        exact HST.out
                      have b8 := ((((bb.drew).trans (b6.mono hszD)).trans (ba6.mono (Nat.le_trans hszD b6.size))).trans bb7).setCell (p := ⟨g, i, none⟩) hgw (.slice A7 (ps.length + [((y, .slice A6 (digs 4294967296 (y).num.natAbs).length c6, .slice D6 (digs 4294967296 (y).den).length e6) : Elt)].length) c7_)
                      have HUL8 : Hid ((us'.set i (.slice A7 (ps.length + [((y, .slice A6 (digs 4294967296 (y).num.natAbs).length c6, .slice D6 (digs 4294967296 (y).den).length e6) : Elt)].length) c7_)).length = wideq t) := by show _ = _; rw [List.length_set]; exact HULi.out
                      have hsk : x.length - (i + 1) < x.length - i := by omega
                      clear TC T6 row7 HK7 hV7 rC cC0 cC1 cC2 cellC cell6 F7 EC ks_ kd_ b6 ba6 bb7 q6 d6
                      go_wp2
                      go_roundw
                      case rel => exact ⟨i + 1, _, _, by omega, T8, HV8, HUL8, b8, by go_num⟩
                      case measure => simp [intOf]; omega
                · obtain rfl : i = x.length := by omega
                  have HV9 : Hid (valq pss' = tst t (k + 1) 0) := by show _ = _; rw [HVi.out, HXL.out, tst_next]
                  clear HVi
                  go_wp2
                  refine ⟨⟨k + 1, us', pss', by omega, hTi, HV9, HULi, bb, by go_num⟩, ?_⟩
                  simp [intOf]; omega
        · obtain rfl : k = t.length := by omega
          have hS := hT.slT
          rw [HV.out, tst_end] at hS
          clear hT HV
          go_wp2
          go_ret
          exact ⟨_, rfl, hS, bb⟩
theorem heap_setCell {w : World} {g i : Nat} {u : Value} {cs : Array Value} {e : TypeId} (h : w.heap[g]? = some (.cells cs e (0, 0))) : (w.setCell ⟨g, i, none⟩ u).heap[g]? = some (.cells (cs.setIfInBounds i u) e (0, 0)) := by
  simp [World.setCell, Array.getElem?_modify, h]
theorem TabS.stored {k : IntKind} {B : Nat} {w : World} {g : Nat} {TS : TypeId} {us : List Value} {t : List (List Rat)} (h : TabS k B w g TS us t) (i : Nat) {u : Value} {r : List Rat} (hu : SlF k B w u r) : TabS k B (w.setCell ⟨g, i, none⟩ u) g TS (us.set i u) (t.set i r) := h.put (grown_set w g i u) (heap_setCell h.1.1) hu
theorem TabS.cellAt {k : IntKind} {B : Nat} {w : World} {g : Nat} {TS : TypeId} {us : List Value} {t : List (List Rat)} (h : TabS k B w g TS us t) {i : Nat} (hi : i < t.length) : ∃ u, w.cell? ⟨g, i, none⟩ = some u := by
  have hu : us[i]? = some (us[i]'(by rw [h.2.1]; exact hi)) := List.getElem?_eq_getElem _
  have := h.1.cell hu
  rw [addr_zero] at this
  exact ⟨_, this⟩
theorem TabS.frozenAt {k : IntKind} {B : Nat} {w : World} {g : Nat} {TS : TypeId} {us : List Value} {t : List (List Rat)} (h : TabS k B w g TS us t) (i : Nat) : w.frozen? ⟨g, i, none⟩ = false := h.1.1.frozen i
theorem partq_len {α : Type} {T : List (List α)} {k n : Nat} (h : T.length = n) (hk : k ≤ n) : (partq T k n).length = n := by
  unfold partq
  rw [List.length_append, List.length_take, List.length_replicate, h]; omega
theorem retTE_no (n : Int) (hn : n ≠ 0) {w w' : World} (hb : Below w.heap.size w w') : RetTE [] n w (.returned (.tuple #[.slice none 0 0, .int .i64 n])) w' := ⟨_, rfl, by rw [if_neg hn]; exact slT_nil _ _ _, hb⟩
set_option maxHeartbeats 3200000 in
set_option maxRecDepth 100000 in
theorem mproduct_any (a0 a1 : Value) (p q : List (List Rat)) (m n : Nat) (w : World) (h0 : SlT .u64 4294967296 w a0 p) (h1 : SlT .u64 4294967296 w a1 q) (he : ∀ r ∈ p, r.length = q.length)
    (hl : p.length ≤ 1000 ∧ q.length ≤ 1000 ∧ wideq q ≤ 1000 ∧ evenq q ∧ lenT p m ∧ lenT q n ∧ 1 ≤ n ∧ n ≤ 900 ∧ (n + m + 1) * q.length + 1 ≤ 900) :
    Calls Tryz.prog 67 #[a0, a1] w (RetSlT .u64 4294967296 (mulq p q) w) := by
  have st0 := h0
  obtain ⟨A0, c0, rfl, hc0, hm0⟩ := h0.shape
  unfold maxLen at hm0
  have st1 := h1
  obtain ⟨A1, c1, rfl, hc1, hm1⟩ := h1.shape
  unfold maxLen at hm1
  have HL := Lib.hid hl
  have HE := Lib.hid he
  have hpl : p.length ≤ 1000 := hl.1
  have HTQ : Hid (q.length ≤ 1000 ∧ wideq q ≤ 1000 ∧ evenq q ∧ lenT q 100000) := ⟨hl.2.1, hl.2.2.1, hl.2.2.2.1, hl.2.2.2.2.2.1.mono (Nat.le_trans hl.2.2.2.2.2.2.2.1 (by decide))⟩
  have HTT : Hid ((mulq p q).length = p.length) := mulq_len p q
  have HD : Hid ((turnq q).length ≤ 1000 ∧ lenT (turnq q) n) := ⟨by rw [turnq_len]; exact hl.2.2.1, lenT_turn hl.2.2.2.2.2.1 hl.2.2.2.2.2.2.1⟩
  clear hl he
  go_enter Tryz.func67, Tryz.ntmps67
  go_wp2_with fail
  refine (mturned_any _ q _ st1 HTQ.out).mono ?_
  rintro e w2 ⟨C, rfl, SC, b2⟩
  obtain ⟨AC, cC, rfl, hcC, hmC⟩ := SC.shape
  go_wp2_with fail
  refine (mbare_any _ p.length _ rfl (by omega)).mono ?_
  rintro e w3 ⟨g, rfl, TB, hg, b3⟩
  have TS0 : TabS .u64 4294967296 w3 g 53 (List.replicate p.length (.slice none 0 0)) (partq (mulq p q) 0 p.length) := by rw [partq_zero]; exact TB.bare
  clear TB
  go_wp2
  go_loopw [16] (fun v16 wr => ∃ (k : Nat) (us : List Value), k ≤ p.length ∧ TabS .u64 4294967296 wr g 53 us (partq (mulq p q) k p.length) ∧ Below w2.heap.size w2 wr ∧ v16 = .int .i64 (k : Int)) (fun v16 _ => p.length - (intOf v16).toNat)
  case atStart => exact ⟨0, _, by omega, TS0, b3, rfl⟩
  case round =>
    obtain ⟨k, us, hk, TS, hb2, rfl⟩ := hrel
    clear TS0 b3
    have bb : Below w.heap.size w wr := b2.trans (hb2.mono b2.size)
    by_cases hlt : k < p.length
    · have hnp : p ≠ [] := List.length_pos_iff.1 (by omega)
      obtain ⟨x, hx⟩ : ∃ x, p[k]? = some x := ⟨_, List.getElem?_eq_getElem hlt⟩
      have hxm := List.mem_of_getElem? hx
      obtain ⟨ad, rfl⟩ := st0.place hnp
      obtain ⟨Ax, cx, hi, ewx, srx⟩ := st0.at2 hx
      have ecx := (bb.cell (World.block_lt_of_cell? w _ ewx)).trans ewx
      have HXL : Hid (x.length = q.length) := HE.out x hxm
      have HAT : Hid ((mulq p q)[k]? = some (dotsq (turnq q) x)) := by show _ = _; rw [dotsq_turn]; exact mulq_at hx
      have SCr := SC.below hb2
      have HDX : Hid ((∀ r ∈ turnq q, r.length = x.length) ∧ (turnq q).length ≤ 1000 ∧ x.length ≤ 1000 ∧ lenT (turnq q) n ∧ (∀ y ∈ x, lenQ y m) ∧ (n + m + 1) * x.length + 1 ≤ 900) := ⟨fun r hr => by rw [turnq_rows r hr, HXL.out], HD.out.1, by rw [HXL.out]; exact HL.out.2.1, HD.out.2, HL.out.2.2.2.2.1 x hxm, by rw [HXL.out]; exact HL.out.2.2.2.2.2.2.2.2⟩
      have hsx := srx.below bb
      clear hx hxm ewx srx
      go_wp2_with fail
      refine (mdots_any _ _ (turnq q) x n m _ SCr hsx HDX.out.1 HDX.out.2).mono ?_
      rintro e w4 ⟨R, rfl, sR, b4⟩
      obtain ⟨AR, cR, rfl, _, _⟩ := sR.shape
      have TS4 := TS.below b4
      obtain ⟨u0, c4⟩ := TS4.cellAt (i := k) (by rw [partq_len HTT.out hk]; exact hlt)
      have f4 := TS4.frozenAt k
      have TS5 := TS4.stored k sR
      rw [partq_set HTT.out HAT.out] at TS5
      have hb5 := (hb2.trans (b4.mono hb2.size)).setCell (p := ⟨g, k, none⟩) hg (.slice AR (dotsq (turnq q) x).length cR)
      have hsk : p.length - (k + 1) < p.length - k := by omega
      clear TS TS4 sR ecx SCr hsx
      go_wp2
      go_roundw
      case rel => exact ⟨k + 1, _, by omega, TS5, hb5, by go_num⟩
      case measure => simp [intOf]; omega
    · obtain rfl : k = p.length := by omega
      rw [partq_full HTT.out] at TS
      have hS := TS.slT HTT.out (by omega)
      clear TS
      go_wp2
      go_ret
      exact ⟨_, rfl, hS, bb⟩
set_option maxHeartbeats 3200000 in
set_option maxRecDepth 100000 in
theorem mident_ok (n : Int) (d : Nat) (w : World) (hn : n = (d : Int)) (hd : d ≤ 200) : Calls Tryz.prog 32 #[.int .i64 n] w (RetTE (identq d) 0 w) := by
  subst hn
  have h1 : ¬ (d : Int) < 0 := by omega
  have h2 : ¬ (200 : Int) < (d : Int) := by omega
  have HTT : Hid ((identq d).length = d) := identq_len d
  go_enter Tryz.func32, Tryz.ntmps32
  go_wp2_with fail
  refine (mbare_any _ d _ rfl (by omega)).mono ?_
  rintro e w3 ⟨g, rfl, TB, hg, b3⟩
  have TS0 : TabS .u64 4294967296 w3 g 53 (List.replicate d (.slice none 0 0)) (partq (identq d) 0 d) := by rw [partq_zero]; exact TB.bare
  clear TB
  go_wp2
  go_loopw [16] (fun v16 wr => ∃ (k : Nat) (us : List Value), k ≤ d ∧ TabS .u64 4294967296 wr g 53 us (partq (identq d) k d) ∧ Below w.heap.size w wr ∧ v16 = .int .i64 (k : Int)) (fun v16 _ => d - (intOf v16).toNat)
  case atStart => exact ⟨0, _, by omega, TS0, b3, rfl⟩
  case round =>
    obtain ⟨k, us, hk, TS, bb, rfl⟩ := hrel
    clear TS0 b3
    by_cases hlt : k < d
    · have HAT : Hid ((identq d)[k]? = some (unitq d k)) := identq_at hlt
      go_wp2_with fail
      refine (funit_ok _ _ d k _ rfl rfl hd hlt).mono ?_
      rintro e w4 ⟨R, rfl, sR, b4⟩
      rw [if_pos rfl] at sR
      obtain ⟨AR, cR, rfl, _, _⟩ := sR.shape
      have TS4 := TS.below b4
      obtain ⟨u0, c4⟩ := TS4.cellAt (i := k) (by rw [partq_len HTT.out hk]; exact hlt)
      have f4 := TS4.frozenAt k
      have TS5 := TS4.stored k sR
      rw [partq_set HTT.out HAT.out] at TS5
      have hb5 := (bb.trans (b4.mono bb.size)).setCell (p := ⟨g, k, none⟩) hg (.slice AR (unitq d k).length cR)
      have hsk : d - (k + 1) < d - k := by omega
      clear TS TS4 sR
      go_wp2
      go_roundw
      case rel => exact ⟨k + 1, _, by omega, TS5, hb5, by go_num⟩
      case measure => simp [intOf]; omega
    · obtain rfl : k = d := by omega
      rw [partq_full HTT.out] at TS
      have hS := TS.slT HTT.out (by omega)
      clear TS
      go_wp2
      go_ret2
      exact ⟨_, rfl, by rw [if_pos rfl]; exact hS, bb⟩
set_option maxHeartbeats 3200000 in
set_option maxRecDepth 100000 in
theorem mturn_any (a0 : Value) (t : List (List Rat)) (w : World) (h0 : SlT .u64 4294967296 w a0 t) (hl : lenT t 100000) :
    Calls Tryz.prog 33 #[a0] w (fun e w' => (mayq t ∧ RetTE (turnq t) 0 w e w') ∨ (¬ mayq t ∧ RetTE [] 8 w e w')) := by
  have st0 := h0
  obtain ⟨A0, c0, rfl, hc0, hm0⟩ := h0.shape
  have HL := Lib.hid hl
  clear hl
  go_enter Tryz.func33, Tryz.ntmps33
  by_cases h : mayq t
  · have HM := Lib.hid h
    go_wp2_with fail
    refine (mmay_any _ t true _ st0 (decide_eq_true HM.out).symm).mono ?_
    rintro e w2 ⟨rfl, b2⟩
    have st2 := st0.below b2
    clear h
    go_wp2_with fail
    refine (mturned_any _ t _ st2 ⟨Nat.le_trans HM.out.1 (by decide), Nat.le_trans HM.out.2.1 (by decide), HM.out.2.2, HL.out⟩).mono ?_
    rintro e w3 ⟨V, rfl, sV, b3⟩
    go_wp2
    go_ret2
    exact .inl ⟨HM.out, _, rfl, by rw [if_pos rfl]; exact sV, b2.trans (b3.mono b2.size)⟩
  · have HM := Lib.hid h
    go_wp2_with fail
    refine (mmay_any _ t false _ st0 (decide_eq_false HM.out).symm).mono ?_
    rintro e w2 ⟨rfl, b2⟩
    clear h
    go_wp2
    go_ret2
    exact .inr ⟨HM.out, retTE_no 8 (by decide) b2⟩
end Go.Proofs.YtpcdkepkipadaaaGreat.rat
