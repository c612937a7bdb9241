/- The document's own fractions: Low. Condition: as each says.
The document's own Clean of fractions. Condition: as it says.
The document's sum of two whole numbers lies in new memory. Condition: sizes are within bounds.
The document's Of of a whole number and of a fraction: the answer lies in new memory. Condition: sizes are within bounds.
What RatMakes wants: a slice cut short, the least of two lengths. No program stands here.
Fractions: what the program reckons (sums over what the lower parts have in common, products put into lowest terms crosswise, the order by products). Mathematics alone.
Package rat: its own contracts, each said of fractions: what its functions stand on, Neg, Sign. Condition: as each says.
few: two rows of fractions out of an argument. Condition: as it says.
The document's own fractions: Add, Sub, Sign, Cmp. Condition: as each says.
The document's own folds of fractions: Sum, Product. Condition: as each says.
The document's own folds of fractions: Whole, Pow. Condition: as each says.
The document's Shares. Condition: as it says.
Folds of fractions: the least and the greatest one, shares are a whole, a mean lies between, sums one by one, sorting. Mathematics alone.
Elements of a row of fractions whose place is told.
An argument as a slice of ints. Condition: it can be read as data.
Rows of ints that the call makes by append.
Package rat: its own contracts, each said of fractions: Inv, Mul, Div. Condition: as each says.
Package rat: its own contracts, each said of fractions: Add, Sub, Cmp. Condition: as each says.
Package rat: its own contracts, each said of fractions: Make, Of, Frac. Condition: as each says. -/
import Derived.Test.YtodpjmbclmlieaaGreatK3
namespace Go.Proofs.YtodpjmbclmlieaaGreat.rat
open Go.RowKit Go.Proofs.YtodpjmbclmlieaaGreat.num Go.Proofs.YtodpjmbclmlieaaGreat.mem Go.Proofs.YtodpjmbclmlieaaGreat.nat Go.Proofs.YtodpjmbclmlieaaGreat.txt Go.Proofs.YtodpjmbclmlieaaGreat.str Go.Proofs.YtodpjmbclmlieaaGreat.flow Go.Proofs.YtodpjmbclmlieaaGreat.whl
set_option linter.unusedVariables false
def psn (k : IntKind) (l : List Nat) : Pd := ⟨fun w v => IsS w k v l, fun h hb => h.below hb⟩
theorem IsQ.drew {w : World} {v : Value} {q : Rat} (h : IsQ w v q) : IsQ w.drew v q := by
  obtain ⟨u, t, e, h1, h2⟩ := h
  exact ⟨u, t, e, h1.drew, h2.drew⟩
theorem IsP.drew {w : World} {v : Value} {q : Rat} (h : IsP w v q) : IsP w.drew v q := by
  obtain ⟨u, t, e, h1, h2⟩ := h
  exact ⟨u, t, e, h1.drew, h2.drew⟩
set_option maxHeartbeats 1600000 in
set_option maxRecDepth 100000 in
theorem rlow_any (a0 : Value) (z : Int) (a1 : Value) (d : Nat) (w : World) (h0 : IsR w a0 z) (h1 : IsS w .i64 a1 (digs 10000 d)) (hd : d ≠ 0) (hl : lenZ z ≤ 30000) (hl2 : (digs 4294967296 d).length ≤ 30000) :
    Calls Tryz.prog 26 #[a0, a1] w (RetPF (mkRat z d) w) := by
  have HL : Hid ((digs 10000 z.natAbs).length ≤ 100000) := Nat.le_trans (lenZ_dec z) (by omega)
  have HL2 : Hid ((digs 10000 d).length ≤ 100000) := Nat.le_trans (dec_le d) (by omega)
  obtain ⟨G, hG⟩ : ∃ G, G = Nat.gcd z.natAbs d := ⟨_, rfl⟩
  obtain ⟨X, hX⟩ : ∃ X, X = z.natAbs / G := ⟨_, rfl⟩
  obtain ⟨Y, hY⟩ : ∃ Y, Y = d / G := ⟨_, rfl⟩
  have hGp : 0 < G := by rw [hG]; exact Nat.gcd_pos_of_pos_right _ (by omega)
  have HGl : Hid ((digs 10000 G).length ≤ 100000) := Nat.le_trans (digs_len_mono (by omega) (by rw [hG]; exact Nat.le_of_dvd (by omega) (Nat.gcd_dvd_right _ _))) HL2.out
  have HQN : Hid ((mkRat z d).num.natAbs = X) := by show _ = _; rw [hX, hG]; exact mk_num z hd
  have HQD : Hid ((mkRat z d).den = Y) := by show _ = _; rw [hY, hG]; exact mk_den z hd
  have HQS := Lib.hid (mk_neg z hd)
  have HXp : z < 0 → 0 < X := by intro hz; rw [hX]; exact Nat.div_pos (Nat.le_of_dvd (by omega) (by rw [hG]; exact Nat.gcd_dvd_left _ _)) hGp
  have HG := Lib.hid hG.symm
  have HX := Lib.hid hX.symm
  have HY := Lib.hid hY.symm
  clear hG hX hY
  rcases hs0 : ngB z with _ | _
  · obtain ⟨u0, rfl, s0⟩ := h0
    obtain ⟨A0, c0, rfl, _⟩ := id s0
    have s1 := h1
    obtain ⟨A1, c1, rfl, _⟩ := id s1
    go_enter Tryz.func26, Tryz.ntmps26
    go_upto_region 1 with (fail)
    obtain ⟨wx, hwx, bb, B0, BR0, hsz⟩ := vars2 w 43 45 #[.bool false, .slice A0 (digs 10000 (z).natAbs).length c0] #[.bool false, .slice none 0 0, .slice none 0 0]
    rw [hwx]
    clear hwx
    have k0s := s0.below bb
    have k0 : IsR wx (.agg #[.bool false, .slice A0 (digs 10000 (z).natAbs).length c0]) (z) := isR_mk k0s rfl hs0.symm
    have k1 := s1.below bb
    have hsz0 := bb.size
    have sB := bb.size
    refine flowp 5 [Pd.eq (.pointer (some ⟨w.heap.size, 1, none⟩)), Pd.eq (.slice A0 (digs 10000 (z).natAbs).length c0), Pd.eq (.slice A1 (digs 10000 d).length c1), psn .i64 (digs 10000 G), psn .i64 (digs 10000 G)] (by kernel_rfl) ?ob1 ?done1
    case ob1 =>
      refine And.intro (ob_fieldAddr rfl (wt_none rfl) (ev_far rfl rfl) (fun _ => by kernel_rfl) (fun _ => rfl)) ?_
      refine And.intro (ob_load rfl (wt_none rfl) (ev_dep (j := 0) (by kernel_rfl) rfl rfl) (fun w2 hb => run_load1 Tryz.underlying41 rfl ((B0.below hb).cell 1)) (fun _ _ => rfl)) ?_
      refine And.intro (ob_move rfl (wt_none rfl) (ev_far rfl rfl) (fun _ _ h => h)) ?_
      refine And.intro (ob_call2 rfl Tryz.func51 (by kernel_rfl) (wt_none rfl) (ev_dep (j := 1) (by kernel_rfl) rfl rfl) (ev_dep (j := 2) (by kernel_rfl) rfl rfl) (fun w2 u0 u1 hb h0 h1 => by obtain rfl := h0; obtain rfl := h1; exact (HG.out ▸ refGcd_any _ _ _ _ _ (k0s.below hb) (k1.below hb) HL.out HL2.out).mono fun e w3 h => h)) ?_
      refine And.intro (ob_assign rfl (wt_none rfl) (ev_dep (j := 3) (by kernel_rfl) rfl rfl) (fun _ _ h => h)) ?_
      trivial
    case done1 =>
      refine fun w11 hb11 v0 h0 v1 h1 v2 h2 v3 h3 v4 h4 b hbf => ?_
      obtain rfl := h0; obtain rfl := h1; obtain rfl := h2
      have q3 := h3
      have q4 := h4
      simp only [Act.put, List.setIfInBounds_toArray, List.set_cons_zero, List.set_cons_succ] at hbf
      subst hbf
      replace B0 := B0.below hb11
      replace k0s := k0s.below hb11
      replace k0 := k0.below hb11
      replace BR0 := BR0.below hb11
      replace k1 := k1.below hb11
      replace bb := bb.trans (hb11.mono bb.size)
      have hsz11 := bb.size
      refine ops_done ?_
      obtain ⟨A5, c5, rfl, _⟩ := id q4
      have kg := q4
      have sB := bb.size
      go_upto_region 2 with (fail)
      refine flowp 9 [Pd.eq (.pointer (some ⟨w.heap.size, 1, none⟩)), Pd.eq (.slice A0 (digs 10000 (z).natAbs).length c0), Pd.eq (.slice A5 (digs 10000 G).length c5), pt2 .i64 (digs 10000 X) (digs 10000 (z.natAbs % G)) w11.heap.size, pt2 .i64 (digs 10000 X) (digs 10000 (z.natAbs % G)) w11.heap.size, ps .i64 (digs 10000 X) w11.heap.size, ps .i64 (digs 10000 (z.natAbs % G)) w11.heap.size, ps .i64 (digs 10000 X) w11.heap.size, ps .i64 (digs 10000 (z.natAbs % G)) w11.heap.size] (by kernel_rfl) ?ob2 ?done2
      case ob2 =>
        refine And.intro (ob_fieldAddr rfl (wt_none rfl) (ev_far rfl rfl) (fun _ => by kernel_rfl) (fun _ => rfl)) ?_
        refine And.intro (ob_load rfl (wt_none rfl) (ev_dep (j := 0) (by kernel_rfl) rfl rfl) (fun w2 hb => run_load1 Tryz.underlying41 rfl ((B0.below hb).cell 1)) (fun _ _ => rfl)) ?_
        refine And.intro (ob_move rfl (wt_none rfl) (ev_far rfl rfl) (fun _ _ h => h)) ?_
        refine And.intro (ob_call2 rfl Tryz.func52 (by kernel_rfl) (wt_none rfl) (ev_dep (j := 1) (by kernel_rfl) rfl rfl) (ev_dep (j := 2) (by kernel_rfl) rfl rfl) (fun w2 u0 u1 hb h0 h1 => by obtain rfl := h0; obtain rfl := h1; exact (HX.out ▸ refDiv_any _ _ z.natAbs G _ (k0s.below hb) (kg.below hb) HL.out HGl.out hGp).mono fun e w3 h => RetSS.pd h hb.size)) ?_
        refine And.intro (ob_move rfl (wt_none rfl) (ev_dep (j := 3) (by kernel_rfl) rfl rfl) (fun _ _ h => h)) ?_
        refine And.intro (ob_extract rfl (wt_none rfl) (ev_dep (j := 4) (by kernel_rfl) rfl rfl) (fun w2 u hu => by obtain ⟨v, u, rfl, q1, q2, q3, q4⟩ := hu; exact ⟨v, rfl, q1, q3⟩)) ?_
        refine And.intro (ob_extract rfl (wt_none rfl) (ev_dep (j := 4) (by kernel_rfl) rfl rfl) (fun w2 u hu => by obtain ⟨v, u, rfl, q1, q2, q3, q4⟩ := hu; exact ⟨u, rfl, q2, q4⟩)) ?_
        refine And.intro (ob_assign rfl (wt_none rfl) (ev_dep (j := 5) (by kernel_rfl) rfl rfl) (fun _ _ h => h)) ?_
        refine And.intro (ob_assign rfl (wt_none rfl) (ev_dep (j := 6) (by kernel_rfl) rfl rfl) (fun _ _ h => h)) ?_
        trivial
      case done2 =>
        refine fun w12 hb12 v0 h0 v1 h1 v2 h2 v3 h3 v4 h4 v5 h5 v6 h6 v7 h7 v8 h8 b hbf => ?_
        obtain rfl := h0; obtain rfl := h1; obtain rfl := h2
        clear h3
        clear h4
        obtain ⟨q5, f5⟩ := h5
        obtain ⟨q6, f6⟩ := h6
        obtain ⟨q7, f7⟩ := h7
        obtain ⟨q8, f8⟩ := h8
        simp only [Act.put, List.setIfInBounds_toArray, List.set_cons_zero, List.set_cons_succ] at hbf
        subst hbf
        replace B0 := B0.below hb12
        replace k0s := k0s.below hb12
        replace k0 := k0.below hb12
        replace BR0 := BR0.below hb12
        replace k1 := k1.below hb12
        replace kg := kg.below hb12
        replace bb := bb.trans (hb12.mono bb.size)
        have hsz12 := bb.size
        have s_5 := sB
        have s_6 := sB
        have s_7 := sB
        have s_8 := sB
        refine ops_done ?_
        obtain ⟨A6, c6, rfl, _⟩ := id q7
        have kx := q7
        have kxf := f7
        have kxz_ := s_7
        have sB := bb.size
        go_upto_region 3 with (fail)
        refine flowp 8 [Pd.eq (.slice A1 (digs 10000 d).length c1), Pd.eq (.slice A5 (digs 10000 G).length c5), pt2 .i64 (digs 10000 Y) (digs 10000 (d % G)) w12.heap.size, pt2 .i64 (digs 10000 Y) (digs 10000 (d % G)) w12.heap.size, ps .i64 (digs 10000 Y) w12.heap.size, ps .i64 (digs 10000 (d % G)) w12.heap.size, ps .i64 (digs 10000 Y) w12.heap.size, ps .i64 (digs 10000 (d % G)) w12.heap.size] (by kernel_rfl) ?ob3 ?done3
        case ob3 =>
          refine And.intro (ob_move rfl (wt_none rfl) (ev_far rfl rfl) (fun _ _ h => h)) ?_
          refine And.intro (ob_move rfl (wt_none rfl) (ev_far rfl rfl) (fun _ _ h => h)) ?_
          refine And.intro (ob_call2 rfl Tryz.func52 (by kernel_rfl) (wt_none rfl) (ev_dep (j := 0) (by kernel_rfl) rfl rfl) (ev_dep (j := 1) (by kernel_rfl) rfl rfl) (fun w2 u0 u1 hb h0 h1 => by obtain rfl := h0; obtain rfl := h1; exact (HY.out ▸ refDiv_any _ _ d G _ (k1.below hb) (kg.below hb) HL2.out HGl.out hGp).mono fun e w3 h => RetSS.pd h hb.size)) ?_
          refine And.intro (ob_move rfl (wt_none rfl) (ev_dep (j := 2) (by kernel_rfl) rfl rfl) (fun _ _ h => h)) ?_
          refine And.intro (ob_extract rfl (wt_none rfl) (ev_dep (j := 3) (by kernel_rfl) rfl rfl) (fun w2 u hu => by obtain ⟨v, u, rfl, q1, q2, q3, q4⟩ := hu; exact ⟨v, rfl, q1, q3⟩)) ?_
          refine And.intro (ob_extract rfl (wt_none rfl) (ev_dep (j := 3) (by kernel_rfl) rfl rfl) (fun w2 u hu => by obtain ⟨v, u, rfl, q1, q2, q3, q4⟩ := hu; exact ⟨u, rfl, q2, q4⟩)) ?_
          refine And.intro (ob_assign rfl (wt_none rfl) (ev_dep (j := 4) (by kernel_rfl) rfl rfl) (fun _ _ h => h)) ?_
          refine And.intro (ob_assign rfl (wt_none rfl) (ev_dep (j := 5) (by kernel_rfl) rfl rfl) (fun _ _ h => h)) ?_
          trivial
        case done3 =>
          refine fun w13 hb13 v0 h0 v1 h1 v2 h2 v3 h3 v4 h4 v5 h5 v6 h6 v7 h7 b hbf => ?_
          obtain rfl := h0; obtain rfl := h1
          clear h2
          clear h3
          obtain ⟨q4, f4⟩ := h4
          obtain ⟨q5, f5⟩ := h5
          obtain ⟨q6, f6⟩ := h6
          obtain ⟨q7, f7⟩ := h7
          simp only [Act.put, List.setIfInBounds_toArray, List.set_cons_zero, List.set_cons_succ] at hbf
          subst hbf
          replace B0 := B0.below hb13
          replace k0s := k0s.below hb13
          replace k0 := k0.below hb13
          replace BR0 := BR0.below hb13
          replace k1 := k1.below hb13
          replace kg := kg.below hb13
          replace kx := kx.below hb13
          replace bb := bb.trans (hb13.mono bb.size)
          have hsz13 := bb.size
          have s_4 := sB
          have s_5 := sB
          have s_6 := sB
          have s_7 := sB
          refine ops_done ?_
          obtain ⟨A8, c8, rfl, _⟩ := id q6
          have ky := q6
          have kyf := f6
          have kyz_ := s_6
          have sB := bb.size
          go_upto_region 4 with (fail)
          refine flowp 11 [Pd.eq (.pointer (some ⟨w.heap.size, 0, none⟩)), Pd.eq (.bool false), Pd.eq (.bool false), Pd.any, Pd.any, Pd.any, Pd.eq (.bool false), Pd.eq (.slice A6 (digs 10000 X).length c6), Pd.eq (.agg #[.bool false, .slice A6 (digs 10000 X).length c6]), Pd.eq (.slice A8 (digs 10000 Y).length c8), Pd.eq (.agg #[.bool false, .slice A6 (digs 10000 X).length c6, .slice A8 (digs 10000 Y).length c8])] (by kernel_rfl) ?ob4 ?done4
          case ob4 =>
            refine And.intro (ob_fieldAddr rfl (wt_none rfl) (ev_far rfl rfl) (fun _ => by kernel_rfl) (fun _ => rfl)) ?_
            refine And.intro (ob_load rfl (wt_none rfl) (ev_dep (j := 0) (by kernel_rfl) rfl rfl) (fun w2 hb => run_load1 Tryz.underlying4 rfl ((B0.below hb).cell 0)) (fun _ _ => rfl)) ?_
            refine And.intro (ob_move rfl (wt_none rfl) (ev_dep (j := 1) (by kernel_rfl) rfl rfl) (fun _ _ h => h)) ?_
            refine And.intro (ob_not (wt_dep (c := false) (b := true) (g := 2) rfl (by kernel_rfl) rfl rfl rfl (by exact fun _ _ h => h)) (fun _ => trivial) rfl) ?_
            refine And.intro (ob_not (wt_dep (c := false) (b := true) (g := 2) rfl (by kernel_rfl) rfl rfl rfl (by exact fun _ _ h => h)) (fun _ => trivial) rfl) ?_
            refine And.intro (ob_not (wt_dep (c := false) (b := true) (g := 2) rfl (by kernel_rfl) rfl rfl rfl (by exact fun _ _ h => h)) (fun _ => trivial) rfl) ?_
            refine And.intro (ob_pick (b := false) rfl (wt_none rfl) (ev_dep (j := 2) (by kernel_rfl) rfl rfl) (ev_const _) (fun _ _ h => h)) ?_
            refine And.intro (ob_move rfl (wt_none rfl) (ev_far rfl rfl) (fun _ _ h => h)) ?_
            refine And.intro (ob_build2b rfl (wt_none rfl) (ev_dep (j := 6) (by kernel_rfl) rfl rfl) (ev_dep (j := 7) (by kernel_rfl) rfl rfl) (fun w2 u v hb hu hv => by obtain rfl := hu; obtain rfl := hv; exact ⟨.agg #[.bool false, .slice A6 (digs 10000 X).length c6], by kernel_rfl, rfl⟩)) ?_
            refine And.intro (ob_move rfl (wt_none rfl) (ev_far rfl rfl) (fun _ _ h => h)) ?_
            refine And.intro (ob_build2b rfl (wt_none rfl) (ev_dep (j := 8) (by kernel_rfl) rfl rfl) (ev_dep (j := 9) (by kernel_rfl) rfl rfl) (fun w2 u v hb hu hv => by obtain rfl := hu; obtain rfl := hv; exact ⟨.agg #[.bool false, .slice A6 (digs 10000 X).length c6, .slice A8 (digs 10000 Y).length c8], by kernel_rfl, rfl⟩)) ?_
            trivial
          case done4 =>
            refine fun w14 hb14 v0 h0 v1 h1 v2 h2 v3 h3 v4 h4 v5 h5 v6 h6 v7 h7 v8 h8 v9 h9 v10 h10 b hbf => ?_
            obtain rfl := h0; obtain rfl := h1; obtain rfl := h2; obtain rfl := h6; obtain rfl := h7; obtain rfl := h8; obtain rfl := h9; obtain rfl := h10
            clear h3
            clear h4
            clear h5
            simp only [Act.put, List.setIfInBounds_toArray, List.set_cons_zero, List.set_cons_succ] at hbf
            subst hbf
            replace B0 := B0.below hb14
            replace k0s := k0s.below hb14
            replace k0 := k0.below hb14
            replace BR0 := BR0.below hb14
            replace k1 := k1.below hb14
            replace kg := kg.below hb14
            replace kx := kx.below hb14
            replace ky := ky.below hb14
            replace bb := bb.trans (hb14.mono bb.size)
            have hsz14 := bb.size
            refine ops_store (i := 11) rfl rfl rfl rfl rfl rfl (cells := [.bool false, .slice A6 (digs 10000 X).length c6, .slice A8 (digs 10000 Y).length c8]) rfl BR0 rfl (by kernel_rfl) (one3 rfl rfl rfl) fun w9 hg9 B9 => ?_
            have k9 := off kx BR0 no_ints3 hg9
            have d9 := off ky BR0 no_ints3 hg9
            have bb9 := bb.trans ((Below.refl _ _).grown hg9 bb.size (fun g hg => by injection hg with hg; omega))
            obtain ⟨C0, C1, C2, _, _, _⟩ := three B9
            refine ops_done ?_
            go_wp2
            exact bodyPost_ret (v := .agg #[.bool false, .slice A6 (digs 10000 X).length c6, .slice A8 (digs 10000 Y).length c8]) (by simp [results, Tryz.results26, go_sem, C0, C1, C2]) rfl ⟨_, rfl, isP_mk k9 d9 (by rw [HQS.out, hs0]) HQN.out HQD.out, freshQ_mk (kxf.mono kxz_) (kyf.mono kyz_), bb9⟩
  · obtain ⟨u0, rfl, s0⟩ := h0
    obtain ⟨A0, c0, rfl, _⟩ := id s0
    have s1 := h1
    obtain ⟨A1, c1, rfl, _⟩ := id s1
    go_enter Tryz.func26, Tryz.ntmps26
    go_upto_region 1 with (fail)
    obtain ⟨wx, hwx, bb, B0, BR0, hsz⟩ := vars2 w 43 45 #[.bool true, .slice A0 (digs 10000 (z).natAbs).length c0] #[.bool false, .slice none 0 0, .slice none 0 0]
    rw [hwx]
    clear hwx
    have k0s := s0.below bb
    have k0 : IsR wx (.agg #[.bool true, .slice A0 (digs 10000 (z).natAbs).length c0]) (z) := isR_mk k0s rfl hs0.symm
    have k1 := s1.below bb
    have hsz0 := bb.size
    have sB := bb.size
    refine flowp 5 [Pd.eq (.pointer (some ⟨w.heap.size, 1, none⟩)), Pd.eq (.slice A0 (digs 10000 (z).natAbs).length c0), Pd.eq (.slice A1 (digs 10000 d).length c1), psn .i64 (digs 10000 G), psn .i64 (digs 10000 G)] (by kernel_rfl) ?ob5 ?done5
    case ob5 =>
      refine And.intro (ob_fieldAddr rfl (wt_none rfl) (ev_far rfl rfl) (fun _ => by kernel_rfl) (fun _ => rfl)) ?_
      refine And.intro (ob_load rfl (wt_none rfl) (ev_dep (j := 0) (by kernel_rfl) rfl rfl) (fun w2 hb => run_load1 Tryz.underlying41 rfl ((B0.below hb).cell 1)) (fun _ _ => rfl)) ?_
      refine And.intro (ob_move rfl (wt_none rfl) (ev_far rfl rfl) (fun _ _ h => h)) ?_
      refine And.intro (ob_call2 rfl Tryz.func51 (by kernel_rfl) (wt_none rfl) (ev_dep (j := 1) (by kernel_rfl) rfl rfl) (ev_dep (j := 2) (by kernel_rfl) rfl rfl) (fun w2 u0 u1 hb h0 h1 => by obtain rfl := h0; obtain rfl := h1; exact (HG.out ▸ refGcd_any _ _ _ _ _ (k0s.below hb) (k1.below hb) HL.out HL2.out).mono fun e w3 h => h)) ?_
      refine And.intro (ob_assign rfl (wt_none rfl) (ev_dep (j := 3) (by kernel_rfl) rfl rfl) (fun _ _ h => h)) ?_
      trivial
    case done5 =>
      refine fun w11 hb11 v0 h0 v1 h1 v2 h2 v3 h3 v4 h4 b hbf => ?_
      obtain rfl := h0; obtain rfl := h1; obtain rfl := h2
      have q3 := h3
      have q4 := h4
      simp only [Act.put, List.setIfInBounds_toArray, List.set_cons_zero, List.set_cons_succ] at hbf
      subst hbf
      replace B0 := B0.below hb11
      replace k0s := k0s.below hb11
      replace k0 := k0.below hb11
      replace BR0 := BR0.below hb11
      replace k1 := k1.below hb11
      replace bb := bb.trans (hb11.mono bb.size)
      have hsz11 := bb.size
      refine ops_done ?_
      obtain ⟨A5, c5, rfl, _⟩ := id q4
      have kg := q4
      have sB := bb.size
      go_upto_region 2 with (fail)
      refine flowp 9 [Pd.eq (.pointer (some ⟨w.heap.size, 1, none⟩)), Pd.eq (.slice A0 (digs 10000 (z).natAbs).length c0), Pd.eq (.slice A5 (digs 10000 G).length c5), pt2 .i64 (digs 10000 X) (digs 10000 (z.natAbs % G)) w11.heap.size, pt2 .i64 (digs 10000 X) (digs 10000 (z.natAbs % G)) w11.heap.size, ps .i64 (digs 10000 X) w11.heap.size, ps .i64 (digs 10000 (z.natAbs % G)) w11.heap.size, ps .i64 (digs 10000 X) w11.heap.size, ps .i64 (digs 10000 (z.natAbs % G)) w11.heap.size] (by kernel_rfl) ?ob6 ?done6
      case ob6 =>
        refine And.intro (ob_fieldAddr rfl (wt_none rfl) (ev_far rfl rfl) (fun _ => by kernel_rfl) (fun _ => rfl)) ?_
        refine And.intro (ob_load rfl (wt_none rfl) (ev_dep (j := 0) (by kernel_rfl) rfl rfl) (fun w2 hb => run_load1 Tryz.underlying41 rfl ((B0.below hb).cell 1)) (fun _ _ => rfl)) ?_
        refine And.intro (ob_move rfl (wt_none rfl) (ev_far rfl rfl) (fun _ _ h => h)) ?_
        refine And.intro (ob_call2 rfl Tryz.func52 (by kernel_rfl) (wt_none rfl) (ev_dep (j := 1) (by kernel_rfl) rfl rfl) (ev_dep (j := 2) (by kernel_rfl) rfl rfl) (fun w2 u0 u1 hb h0 h1 => by obtain rfl := h0; obtain rfl := h1; exact (HX.out ▸ refDiv_any _ _ z.natAbs G _ (k0s.below hb) (kg.below hb) HL.out HGl.out hGp).mono fun e w3 h => RetSS.pd h hb.size)) ?_
        refine And.intro (ob_move rfl (wt_none rfl) (ev_dep (j := 3) (by kernel_rfl) rfl rfl) (fun _ _ h => h)) ?_
        refine And.intro (ob_extract rfl (wt_none rfl) (ev_dep (j := 4) (by kernel_rfl) rfl rfl) (fun w2 u hu => by obtain ⟨v, u, rfl, q1, q2, q3, q4⟩ := hu; exact ⟨v, rfl, q1, q3⟩)) ?_
        refine And.intro (ob_extract rfl (wt_none rfl) (ev_dep (j := 4) (by kernel_rfl) rfl rfl) (fun w2 u hu => by obtain ⟨v, u, rfl, q1, q2, q3, q4⟩ := hu; exact ⟨u, rfl, q2, q4⟩)) ?_
        refine And.intro (ob_assign rfl (wt_none rfl) (ev_dep (j := 5) (by kernel_rfl) rfl rfl) (fun _ _ h => h)) ?_
        refine And.intro (ob_assign rfl (wt_none rfl) (ev_dep (j := 6) (by kernel_rfl) rfl rfl) (fun _ _ h => h)) ?_
        trivial
      case done6 =>
        refine fun w12 hb12 v0 h0 v1 h1 v2 h2 v3 h3 v4 h4 v5 h5 v6 h6 v7 h7 v8 h8 b hbf => ?_
        obtain rfl := h0; obtain rfl := h1; obtain rfl := h2
        clear h3
        clear h4
        obtain ⟨q5, f5⟩ := h5
        obtain ⟨q6, f6⟩ := h6
        obtain ⟨q7, f7⟩ := h7
        obtain ⟨q8, f8⟩ := h8
        simp only [Act.put, List.setIfInBounds_toArray, List.set_cons_zero, List.set_cons_succ] at hbf
        subst hbf
        replace B0 := B0.below hb12
        replace k0s := k0s.below hb12
        replace k0 := k0.below hb12
        replace BR0 := BR0.below hb12
        replace k1 := k1.below hb12
        replace kg := kg.below hb12
        replace bb := bb.trans (hb12.mono bb.size)
        have hsz12 := bb.size
        have s_5 := sB
        have s_6 := sB
        have s_7 := sB
        have s_8 := sB
        refine ops_done ?_
        obtain ⟨A6, c6, rfl, _⟩ := id q7
        have kx := q7
        have kxf := f7
        have kxz_ := s_7
        have sB := bb.size
        go_upto_region 3 with (fail)
        refine flowp 8 [Pd.eq (.slice A1 (digs 10000 d).length c1), Pd.eq (.slice A5 (digs 10000 G).length c5), pt2 .i64 (digs 10000 Y) (digs 10000 (d % G)) w12.heap.size, pt2 .i64 (digs 10000 Y) (digs 10000 (d % G)) w12.heap.size, ps .i64 (digs 10000 Y) w12.heap.size, ps .i64 (digs 10000 (d % G)) w12.heap.size, ps .i64 (digs 10000 Y) w12.heap.size, ps .i64 (digs 10000 (d % G)) w12.heap.size] (by kernel_rfl) ?ob7 ?done7
        case ob7 =>
          refine And.intro (ob_move rfl (wt_none rfl) (ev_far rfl rfl) (fun _ _ h => h)) ?_
          refine And.intro (ob_move rfl (wt_none rfl) (ev_far rfl rfl) (fun _ _ h => h)) ?_
          refine And.intro (ob_call2 rfl Tryz.func52 (by kernel_rfl) (wt_none rfl) (ev_dep (j := 0) (by kernel_rfl) rfl rfl) (ev_dep (j := 1) (by kernel_rfl) rfl rfl) (fun w2 u0 u1 hb h0 h1 => by obtain rfl := h0; obtain rfl := h1; exact (HY.out ▸ refDiv_any _ _ d G _ (k1.below hb) (kg.below hb) HL2.out HGl.out hGp).mono fun e w3 h => RetSS.pd h hb.size)) ?_
          refine And.intro (ob_move rfl (wt_none rfl) (ev_dep (j := 2) (by kernel_rfl) rfl rfl) (fun _ _ h => h)) ?_
          refine And.intro (ob_extract rfl (wt_none rfl) (ev_dep (j := 3) (by kernel_rfl) rfl rfl) (fun w2 u hu => by obtain ⟨v, u, rfl, q1, q2, q3, q4⟩ := hu; exact ⟨v, rfl, q1, q3⟩)) ?_
          refine And.intro (ob_extract rfl (wt_none rfl) (ev_dep (j := 3) (by kernel_rfl) rfl rfl) (fun w2 u hu => by obtain ⟨v, u, rfl, q1, q2, q3, q4⟩ := hu; exact ⟨u, rfl, q2, q4⟩)) ?_
          refine And.intro (ob_assign rfl (wt_none rfl) (ev_dep (j := 4) (by kernel_rfl) rfl rfl) (fun _ _ h => h)) ?_
          refine And.intro (ob_assign rfl (wt_none rfl) (ev_dep (j := 5) (by kernel_rfl) rfl rfl) (fun _ _ h => h)) ?_
          trivial
        case done7 =>
          refine fun w13 hb13 v0 h0 v1 h1 v2 h2 v3 h3 v4 h4 v5 h5 v6 h6 v7 h7 b hbf => ?_
          obtain rfl := h0; obtain rfl := h1
          clear h2
          clear h3
          obtain ⟨q4, f4⟩ := h4
          obtain ⟨q5, f5⟩ := h5
          obtain ⟨q6, f6⟩ := h6
          obtain ⟨q7, f7⟩ := h7
          simp only [Act.put, List.setIfInBounds_toArray, List.set_cons_zero, List.set_cons_succ] at hbf
          subst hbf
          replace B0 := B0.below hb13
          replace k0s := k0s.below hb13
          replace k0 := k0.below hb13
          replace BR0 := BR0.below hb13
          replace k1 := k1.below hb13
          replace kg := kg.below hb13
          replace kx := kx.below hb13
          replace bb := bb.trans (hb13.mono bb.size)
          have hsz13 := bb.size
          have s_4 := sB
          have s_5 := sB
          have s_6 := sB
          have s_7 := sB
          refine ops_done ?_
          obtain ⟨A8, c8, rfl, _⟩ := id q6
          have ky := q6
          have kyf := f6
          have kyz_ := s_6
          have HXl : Hid (decide ((0 : Int) < (((digs 10000 X).length : Nat) : Int)) = true) := by show _ = _; have := (digs_len0 (B := 10000) (by omega) (x := X)).1; have := HXp (ngB_true hs0); exact decide_eq_true (by omega)
          have sB := bb.size
          go_upto_region 4 with (fail)
          refine flowp 11 [Pd.eq (.pointer (some ⟨w.heap.size, 0, none⟩)), Pd.eq (.bool true), Pd.eq (.bool true), Pd.eq (.slice A6 (digs 10000 X).length c6), Pd.eq (.int .i64 (((digs 10000 X).length : Nat) : Int)), Pd.eq (.bool true), Pd.eq (.bool true), Pd.eq (.slice A6 (digs 10000 X).length c6), Pd.eq (.agg #[.bool true, .slice A6 (digs 10000 X).length c6]), Pd.eq (.slice A8 (digs 10000 Y).length c8), Pd.eq (.agg #[.bool true, .slice A6 (digs 10000 X).length c6, .slice A8 (digs 10000 Y).length c8])] (by kernel_rfl) ?ob8 ?done8
          case ob8 =>
            refine And.intro (ob_fieldAddr rfl (wt_none rfl) (ev_far rfl rfl) (fun _ => by kernel_rfl) (fun _ => rfl)) ?_
            refine And.intro (ob_load rfl (wt_none rfl) (ev_dep (j := 0) (by kernel_rfl) rfl rfl) (fun w2 hb => run_load1 Tryz.underlying4 rfl ((B0.below hb).cell 0)) (fun _ _ => rfl)) ?_
            refine And.intro (ob_move rfl (wt_none rfl) (ev_dep (j := 1) (by kernel_rfl) rfl rfl) (fun _ _ h => h)) ?_
            refine And.intro (ob_move rfl (wt_dep (c := true) (b := true) (g := 2) rfl (by kernel_rfl) rfl rfl rfl (by exact fun _ _ h => h)) (ev_far rfl rfl) (fun _ _ h => h)) ?_
            refine And.intro (ob_len rfl (wt_dep (c := true) (b := true) (g := 2) rfl (by kernel_rfl) rfl rfl rfl (by exact fun _ _ h => h)) (ev_dep (j := 3) (by kernel_rfl) rfl rfl) (fun _ _ hx => ⟨_, by rw [hx]; exact len_slice Tryz.underlying41 _ _ _ _, rfl⟩)) ?_
            refine And.intro (ob_bin rfl (wt_dep (c := true) (b := true) (g := 2) rfl (by kernel_rfl) rfl rfl rfl (by exact fun _ _ h => h)) (ev_dep (j := 4) (by kernel_rfl) rfl rfl) (ev_const _) (fun _ _ _ hx hy => ⟨.bool true, by rw [hx, hy, bin_gtr_int, HXl.out], rfl⟩)) ?_
            refine And.intro (ob_pick (b := true) rfl (wt_none rfl) (ev_dep (j := 2) (by kernel_rfl) rfl rfl) (ev_dep (j := 5) (by kernel_rfl) rfl rfl) (fun _ _ h => h)) ?_
            refine And.intro (ob_move rfl (wt_none rfl) (ev_far rfl rfl) (fun _ _ h => h)) ?_
            refine And.intro (ob_build2b rfl (wt_none rfl) (ev_dep (j := 6) (by kernel_rfl) rfl rfl) (ev_dep (j := 7) (by kernel_rfl) rfl rfl) (fun w2 u v hb hu hv => by obtain rfl := hu; obtain rfl := hv; exact ⟨.agg #[.bool true, .slice A6 (digs 10000 X).length c6], by kernel_rfl, rfl⟩)) ?_
            refine And.intro (ob_move rfl (wt_none rfl) (ev_far rfl rfl) (fun _ _ h => h)) ?_
            refine And.intro (ob_build2b rfl (wt_none rfl) (ev_dep (j := 8) (by kernel_rfl) rfl rfl) (ev_dep (j := 9) (by kernel_rfl) rfl rfl) (fun w2 u v hb hu hv => by obtain rfl := hu; obtain rfl := hv; exact ⟨.agg #[.bool true, .slice A6 (digs 10000 X).length c6, .slice A8 (digs 10000 Y).length c8], by kernel_rfl, rfl⟩)) ?_
            trivial
          case done8 =>
            refine fun w14 hb14 v0 h0 v1 h1 v2 h2 v3 h3 v4 h4 v5 h5 v6 h6 v7 h7 v8 h8 v9 h9 v10 h10 b hbf => ?_
            obtain rfl := h0; obtain rfl := h1; obtain rfl := h2; obtain rfl := h3; obtain rfl := h4; obtain rfl := h5; obtain rfl := h6; obtain rfl := h7; obtain rfl := h8; obtain rfl := h9; obtain rfl := h10
            simp only [Act.put, List.setIfInBounds_toArray, List.set_cons_zero, List.set_cons_succ] at hbf
            subst hbf
            replace B0 := B0.below hb14
            replace k0s := k0s.below hb14
            replace k0 := k0.below hb14
            replace BR0 := BR0.below hb14
            replace k1 := k1.below hb14
            replace kg := kg.below hb14
            replace kx := kx.below hb14
            replace ky := ky.below hb14
            replace bb := bb.trans (hb14.mono bb.size)
            have hsz14 := bb.size
            refine ops_store (i := 11) rfl rfl rfl rfl rfl rfl (cells := [.bool true, .slice A6 (digs 10000 X).length c6, .slice A8 (digs 10000 Y).length c8]) rfl BR0 rfl (by kernel_rfl) (one3 rfl rfl rfl) fun w9 hg9 B9 => ?_
            have k9 := off kx BR0 no_ints3 hg9
            have d9 := off ky BR0 no_ints3 hg9
            have bb9 := bb.trans ((Below.refl _ _).grown hg9 bb.size (fun g hg => by injection hg with hg; omega))
            obtain ⟨C0, C1, C2, _, _, _⟩ := three B9
            refine ops_done ?_
            go_wp2
            exact bodyPost_ret (v := .agg #[.bool true, .slice A6 (digs 10000 X).length c6, .slice A8 (digs 10000 Y).length c8]) (by simp [results, Tryz.results26, go_sem, C0, C1, C2]) rfl ⟨_, rfl, isP_mk k9 d9 (by rw [HQS.out, hs0]) HQN.out HQD.out, freshQ_mk (kxf.mono kxz_) (kyf.mono kyz_), bb9⟩
set_option maxHeartbeats 1600000 in
set_option maxRecDepth 100000 in
theorem qof_any (a0 : Value) (q : Rat) (w : World) (h0 : IsQ w a0 q) (hl : lenQ q 30000) :
    Calls Tryz.prog 12 #[a0] w (RetP q w) := by
  obtain ⟨u0, t0, rfl, s0, r0⟩ := h0
  obtain ⟨A0, c0, rfl, _⟩ := id s0
  obtain ⟨D0, e0, rfl, _⟩ := id r0
  go_enter Tryz.func12, Tryz.ntmps12
  go_upto_region 1 with (fail)
  obtain ⟨wx, hwx, bb, B0, BR0, hsz⟩ := vars2 w 28 45 #[.bool (ngB (q).num), .slice A0 (digs 4294967296 (q).num.natAbs).length c0, .slice D0 (digs 4294967296 (q).den).length e0] #[.bool false, .slice none 0 0, .slice none 0 0]
  rw [hwx]
  clear hwx
  have k0s := s0.below bb
  have k0d := r0.below bb
  have k0z : IsZ wx (.agg #[.bool (ngB (q).num), .slice A0 (digs 4294967296 (q).num.natAbs).length c0]) (q).num := ⟨_, rfl, k0s⟩
  have k0 : IsQ wx (.agg #[.bool (ngB (q).num), .slice A0 (digs 4294967296 (q).num.natAbs).length c0, .slice D0 (digs 4294967296 (q).den).length e0]) (q) := ⟨_, _, rfl, k0s, k0d⟩
  have hsz0 := bb.size
  have sB := bb.size
  refine flow 7 [Pd.eq (.pointer (some ⟨w.heap.size, 0, none⟩)), Pd.eq (.agg #[.bool (ngB (q).num), .slice A0 (digs 4294967296 (q).num.natAbs).length c0]), pr ((q).num), Pd.eq (.pointer (some ⟨w.heap.size, 2, none⟩)), Pd.eq (.slice D0 (digs 4294967296 (q).den).length e0), ps .i64 (digs 10000 (q).den) wx.heap.size, pp (q)] (by kernel_rfl) (by kernel_rfl) ?ob9 ?done9
  case ob9 =>
    refine And.intro (ob_fieldAddr rfl (wt_none rfl) (ev_far rfl rfl) (fun _ => by kernel_rfl) (fun _ => rfl)) ?_
    refine And.intro (ob_load rfl (wt_none rfl) (ev_dep (j := 0) (by kernel_rfl) rfl rfl) (fun w2 hb => run_loadPart Tryz.underlying26 rfl (by kernel_rfl) (B0.drew.below hb) rfl) (fun _ _ => rfl)) ?_
    refine And.intro (ob_call1 rfl Tryz.func27 (by kernel_rfl) (wt_none rfl) (ev_dep (j := 1) (by kernel_rfl) rfl rfl) (fun w2 u0 hb h0 => by obtain rfl := h0; exact (rof_any _ _ _ (k0z.drew.below hb) (Nat.le_trans hl.1 (by decide))).mono fun e w3 h => RetR.pd h)) ?_
    refine And.intro (ob_fieldAddr rfl (wt_none rfl) (ev_far rfl rfl) (fun _ => by kernel_rfl) (fun _ => rfl)) ?_
    refine And.intro (ob_load rfl (wt_none rfl) (ev_dep (j := 3) (by kernel_rfl) rfl rfl) (fun w2 hb => run_load1 Tryz.underlying24 rfl ((B0.drew.below hb).cell 2)) (fun _ _ => rfl)) ?_
    refine And.intro (ob_call1 rfl Tryz.func29 (by kernel_rfl) (wt_none rfl) (ev_dep (j := 4) (by kernel_rfl) rfl rfl) (fun w2 u0 hb h0 => by obtain rfl := h0; exact (refOf_any _ _ _ (k0d.drew.below hb) (Nat.le_trans hl.2 (by decide))).mono fun e w3 h => RetS.pd h hb.size)) ?_
    refine And.intro (ob_build2b rfl (wt_none rfl) (ev_dep (j := 2) (by kernel_rfl) rfl rfl) (ev_dep (j := 5) (by kernel_rfl) rfl rfl) (fun w2 u v hb hu hv => by obtain ⟨u7, rfl, hu7⟩ := hu; obtain ⟨A7, c7, rfl, _⟩ := id hu7; obtain ⟨A8, c8, rfl, _⟩ := id hv.1; exact ⟨.agg #[.bool (ngB (q).num), .slice A7 (digs 10000 (q).num.natAbs).length c7, .slice A8 (digs 10000 (q).den).length c8], by kernel_rfl, ⟨_, _, rfl, hu7, hv.1⟩⟩)) ?_
    trivial
  case done9 =>
    refine fun w11 hb11 v0 h0 v1 h1 v2 h2 v3 h3 v4 h4 v5 h5 v6 h6 b hbf => ?_
    obtain rfl := h0; obtain rfl := h1; obtain rfl := h3; obtain rfl := h4
    have q2 := h2
    obtain ⟨q5, f5⟩ := h5
    have q6 := h6
    simp only [Act.put, List.setIfInBounds_toArray, List.set_cons_zero, List.set_cons_succ] at hbf
    subst hbf
    replace B0 := B0.below hb11
    replace k0s := k0s.below hb11
    replace k0d := k0d.below hb11
    replace k0z := k0z.below hb11
    replace k0 := k0.below hb11
    replace BR0 := BR0.below hb11
    replace bb := bb.trans (hb11.mono bb.size)
    have hsz11 := bb.size
    have s_5 := sB
    obtain ⟨u6, t6, rfl, q6, d6⟩ := q6
    obtain ⟨A9, c9, rfl, _⟩ := id q6
    obtain ⟨D9, e9, rfl, _⟩ := id d6
    refine any_store (i := 7) (by kernel_rfl) rfl rfl rfl rfl rfl rfl (cells := [.bool (ngB (q).num), .slice A9 (digs 10000 (q).num.natAbs).length c9, .slice D9 (digs 10000 (q).den).length e9]) rfl BR0 rfl (by kernel_rfl) (one3 rfl rfl rfl) fun w9 hg9 B9 => ?_
    have k9 := off q6 BR0 no_ints3 hg9
    have d9 := off d6 BR0 no_ints3 hg9
    have bb9 := bb.trans ((Below.refl _ _).grown hg9 bb.size (fun g hg => by injection hg with hg; omega))
    obtain ⟨C0, C1, C2, _, _, _⟩ := three B9
    refine any_done (by kernel_rfl) ?_
    go_wp2
    exact bodyPost_ret (v := .agg #[.bool (ngB (q).num), .slice A9 (digs 10000 (q).num.natAbs).length c9, .slice D9 (digs 10000 (q).den).length e9]) (by simp [results, Tryz.results12, go_sem, C0, C1, C2]) rfl ⟨_, rfl, ⟨_, _, rfl, k9, d9⟩, bb9⟩
set_option maxHeartbeats 1600000 in
set_option maxRecDepth 100000 in
theorem qback_any (a0 : Value) (q : Rat) (w : World) (h0 : IsP w a0 q) (hl : lenQ q 30000) :
    Calls Tryz.prog 23 #[a0] w (RetQ q w) := by
  obtain ⟨u0, t0, rfl, s0, r0⟩ := h0
  obtain ⟨A0, c0, rfl, _⟩ := id s0
  obtain ⟨D0, e0, rfl, _⟩ := id r0
  go_enter Tryz.func23, Tryz.ntmps23
  go_upto_region 1 with (fail)
  obtain ⟨wx, hwx, bb, B0, BR0, hsz⟩ := vars2 w 45 28 #[.bool (ngB (q).num), .slice A0 (digs 10000 (q).num.natAbs).length c0, .slice D0 (digs 10000 (q).den).length e0] #[.bool false, .slice none 0 0, .slice none 0 0]
  rw [hwx]
  clear hwx
  have k0s := s0.below bb
  have k0d := r0.below bb
  have k0z : IsR wx (.agg #[.bool (ngB (q).num), .slice A0 (digs 10000 (q).num.natAbs).length c0]) (q).num := ⟨_, rfl, k0s⟩
  have k0 : IsP wx (.agg #[.bool (ngB (q).num), .slice A0 (digs 10000 (q).num.natAbs).length c0, .slice D0 (digs 10000 (q).den).length e0]) (q) := ⟨_, _, rfl, k0s, k0d⟩
  have hsz0 := bb.size
  have sB := bb.size
  refine flow 7 [Pd.eq (.pointer (some ⟨w.heap.size, 0, none⟩)), Pd.eq (.agg #[.bool (ngB (q).num), .slice A0 (digs 10000 (q).num.natAbs).length c0]), pz ((q).num) wx.heap.size, Pd.eq (.pointer (some ⟨w.heap.size, 2, none⟩)), Pd.eq (.slice D0 (digs 10000 (q).den).length e0), ps .u64 (digs 4294967296 (q).den) wx.heap.size, pq (q) wx.heap.size] (by kernel_rfl) (by kernel_rfl) ?ob10 ?done10
  case ob10 =>
    refine And.intro (ob_fieldAddr rfl (wt_none rfl) (ev_far rfl rfl) (fun _ => by kernel_rfl) (fun _ => rfl)) ?_
    refine And.intro (ob_load rfl (wt_none rfl) (ev_dep (j := 0) (by kernel_rfl) rfl rfl) (fun w2 hb => run_loadPart Tryz.underlying43 rfl (by kernel_rfl) (B0.drew.below hb) rfl) (fun _ _ => rfl)) ?_
    refine And.intro (ob_call1 rfl Tryz.func48 (by kernel_rfl) (wt_none rfl) (ev_dep (j := 1) (by kernel_rfl) rfl rfl) (fun w2 u0 hb h0 => by obtain rfl := h0; exact (rback_any _ _ _ (k0z.drew.below hb) (Nat.le_trans hl.1 (by decide))).mono fun e w3 h => RetZ.pd h hb.size)) ?_
    refine And.intro (ob_fieldAddr rfl (wt_none rfl) (ev_far rfl rfl) (fun _ => by kernel_rfl) (fun _ => rfl)) ?_
    refine And.intro (ob_load rfl (wt_none rfl) (ev_dep (j := 3) (by kernel_rfl) rfl rfl) (fun w2 hb => run_load1 Tryz.underlying41 rfl ((B0.drew.below hb).cell 2)) (fun _ _ => rfl)) ?_
    refine And.intro (ob_call1 rfl Tryz.func49 (by kernel_rfl) (wt_none rfl) (ev_dep (j := 4) (by kernel_rfl) rfl rfl) (fun w2 u0 hb h0 => by obtain rfl := h0; exact (refBack_any _ _ _ (k0d.drew.below hb) (Nat.le_trans (dec_le _) (by have := hl.2; omega)) (Nat.le_trans hl.2 (by decide))).mono fun e w3 h => RetS.pd h hb.size)) ?_
    refine And.intro (ob_build2b rfl (wt_none rfl) (ev_dep (j := 2) (by kernel_rfl) rfl rfl) (ev_dep (j := 5) (by kernel_rfl) rfl rfl) (fun w2 u v hb hu hv => by obtain ⟨u7, rfl, hu7⟩ := hu.1; obtain ⟨A7, c7, rfl, _⟩ := id hu7; obtain ⟨A8, c8, rfl, _⟩ := id hv.1; exact ⟨.agg #[.bool (ngB (q).num), .slice A7 (digs 4294967296 (q).num.natAbs).length c7, .slice A8 (digs 4294967296 (q).den).length c8], by kernel_rfl, ⟨⟨_, _, rfl, hu7, hv.1⟩, freshQ_mk (hu.2 _ _ rfl) hv.2⟩⟩)) ?_
    trivial
  case done10 =>
    refine fun w11 hb11 v0 h0 v1 h1 v2 h2 v3 h3 v4 h4 v5 h5 v6 h6 b hbf => ?_
    obtain rfl := h0; obtain rfl := h1; obtain rfl := h3; obtain rfl := h4
    obtain ⟨q2, f2⟩ := h2
    obtain ⟨q5, f5⟩ := h5
    obtain ⟨q6, f6⟩ := h6
    simp only [Act.put, List.setIfInBounds_toArray, List.set_cons_zero, List.set_cons_succ] at hbf
    subst hbf
    replace B0 := B0.below hb11
    replace k0s := k0s.below hb11
    replace k0d := k0d.below hb11
    replace k0z := k0z.below hb11
    replace k0 := k0.below hb11
    replace BR0 := BR0.below hb11
    replace bb := bb.trans (hb11.mono bb.size)
    have hsz11 := bb.size
    have s_2 := sB
    have s_5 := sB
    have s_6 := sB
    obtain ⟨u6, t6, rfl, q6, d6⟩ := q6
    obtain ⟨A9, c9, rfl, _⟩ := id q6
    obtain ⟨D9, e9, rfl, _⟩ := id d6
    refine any_store (i := 7) (by kernel_rfl) rfl rfl rfl rfl rfl rfl (cells := [.bool (ngB (q).num), .slice A9 (digs 4294967296 (q).num.natAbs).length c9, .slice D9 (digs 4294967296 (q).den).length e9]) rfl BR0 rfl (by kernel_rfl) (one3 rfl rfl rfl) fun w9 hg9 B9 => ?_
    have k9 := off q6 BR0 no_ints3 hg9
    have d9 := off d6 BR0 no_ints3 hg9
    have f9 := f6.mono (show w.heap.size ≤ _ from s_6)
    have bb9 := bb.trans ((Below.refl _ _).grown hg9 bb.size (fun g hg => by injection hg with hg; omega))
    obtain ⟨C0, C1, C2, _, _, _⟩ := three B9
    refine any_done (by kernel_rfl) ?_
    go_wp2
    exact bodyPost_ret (v := .agg #[.bool (ngB (q).num), .slice A9 (digs 4294967296 (q).num.natAbs).length c9, .slice D9 (digs 4294967296 (q).den).length e9]) (by simp [results, Tryz.results23, go_sem, C0, C1, C2]) rfl ⟨_, rfl, ⟨_, _, rfl, k9, d9⟩, f9, bb9⟩
set_option maxHeartbeats 1600000 in
set_option maxRecDepth 100000 in
theorem qneg_any (a0 : Value) (q : Rat) (w : World) (h0 : IsP w a0 q)  :
    Calls Tryz.prog 69 #[a0] w (RetP (-q) w) := by
  obtain ⟨u0, t0, rfl, s0, r0⟩ := h0
  obtain ⟨A0, c0, rfl, _⟩ := id s0
  obtain ⟨D0, e0, rfl, _⟩ := id r0
  have HN : Hid (-q.num = (-q).num) := (neg_parts q).1.symm
  have HD : Hid (q.den = (-q).den) := (neg_parts q).2.symm
  go_enter Tryz.func69, Tryz.ntmps69
  go_upto_region 1 with (fail)
  obtain ⟨wx, hwx, bb, B0, BR0, hsz⟩ := vars2 w 45 45 #[.bool (ngB (q).num), .slice A0 (digs 10000 (q).num.natAbs).length c0, .slice D0 (digs 10000 (q).den).length e0] #[.bool false, .slice none 0 0, .slice none 0 0]
  rw [hwx]
  clear hwx
  have k0s := s0.below bb
  have k0d := r0.below bb
  have k0z : IsR wx (.agg #[.bool (ngB (q).num), .slice A0 (digs 10000 (q).num.natAbs).length c0]) (q).num := ⟨_, rfl, k0s⟩
  have k0 : IsP wx (.agg #[.bool (ngB (q).num), .slice A0 (digs 10000 (q).num.natAbs).length c0, .slice D0 (digs 10000 (q).den).length e0]) (q) := ⟨_, _, rfl, k0s, k0d⟩
  have hsz0 := bb.size
  have sB := bb.size
  refine flow 6 [Pd.eq (.pointer (some ⟨w.heap.size, 0, none⟩)), Pd.eq (.agg #[.bool (ngB (q).num), .slice A0 (digs 10000 (q).num.natAbs).length c0]), pr ((-q).num), Pd.eq (.pointer (some ⟨w.heap.size, 2, none⟩)), Pd.eq (.slice D0 (digs 10000 (q).den).length e0), pp (-q)] (by kernel_rfl) (by kernel_rfl) ?ob11 ?done11
  case ob11 =>
    refine And.intro (ob_fieldAddr rfl (wt_none rfl) (ev_far rfl rfl) (fun _ => by kernel_rfl) (fun _ => rfl)) ?_
    refine And.intro (ob_load rfl (wt_none rfl) (ev_dep (j := 0) (by kernel_rfl) rfl rfl) (fun w2 hb => run_loadPart Tryz.underlying43 rfl (by kernel_rfl) (B0.drew.below hb) rfl) (fun _ _ => rfl)) ?_
    refine And.intro (ob_call1 rfl Tryz.func89 (by kernel_rfl) (wt_none rfl) (ev_dep (j := 1) (by kernel_rfl) rfl rfl) (fun w2 u0 hb h0 => by obtain rfl := h0; exact (HN.out ▸ rneg_any _ _ _ (k0z.drew.below hb)).mono fun e w3 h => RetR.pd h)) ?_
    refine And.intro (ob_fieldAddr rfl (wt_none rfl) (ev_far rfl rfl) (fun _ => by kernel_rfl) (fun _ => rfl)) ?_
    refine And.intro (ob_load rfl (wt_none rfl) (ev_dep (j := 3) (by kernel_rfl) rfl rfl) (fun w2 hb => run_load1 Tryz.underlying41 rfl ((B0.drew.below hb).cell 2)) (fun _ _ => rfl)) ?_
    refine And.intro (ob_build2b rfl (wt_none rfl) (ev_dep (j := 2) (by kernel_rfl) rfl rfl) (ev_dep (j := 4) (by kernel_rfl) rfl rfl) (fun w2 u v hb hu hv => by obtain ⟨u7, rfl, hu7⟩ := hu; obtain ⟨A7, c7, rfl, _⟩ := id hu7; obtain rfl := hv; exact ⟨.agg #[.bool (ngB (-q).num), .slice A7 (digs 10000 (-q).num.natAbs).length c7, .slice D0 (digs 10000 (q).den).length e0], by kernel_rfl, ⟨_, _, rfl, hu7, (k0d.drew.below hb)⟩⟩)) ?_
    trivial
  case done11 =>
    refine fun w11 hb11 v0 h0 v1 h1 v2 h2 v3 h3 v4 h4 v5 h5 b hbf => ?_
    obtain rfl := h0; obtain rfl := h1; obtain rfl := h3; obtain rfl := h4
    have q2 := h2
    have q5 := h5
    simp only [Act.put, List.setIfInBounds_toArray, List.set_cons_zero, List.set_cons_succ] at hbf
    subst hbf
    replace B0 := B0.below hb11
    replace k0s := k0s.below hb11
    replace k0d := k0d.below hb11
    replace k0z := k0z.below hb11
    replace k0 := k0.below hb11
    replace BR0 := BR0.below hb11
    replace bb := bb.trans (hb11.mono bb.size)
    have hsz11 := bb.size
    obtain ⟨u5, t5, rfl, q5, d5⟩ := q5
    obtain ⟨A9, c9, rfl, _⟩ := id q5
    obtain ⟨D9, e9, rfl, _⟩ := id d5
    refine any_store (i := 6) (by kernel_rfl) rfl rfl rfl rfl rfl rfl (cells := [.bool (ngB (-q).num), .slice A9 (digs 10000 (-q).num.natAbs).length c9, .slice D9 (digs 10000 (-q).den).length e9]) rfl BR0 rfl (by kernel_rfl) (one3 rfl rfl rfl) fun w9 hg9 B9 => ?_
    have k9 := off q5 BR0 no_ints3 hg9
    have d9 := off d5 BR0 no_ints3 hg9
    have bb9 := bb.trans ((Below.refl _ _).grown hg9 bb.size (fun g hg => by injection hg with hg; omega))
    obtain ⟨C0, C1, C2, _, _, _⟩ := three B9
    refine any_done (by kernel_rfl) ?_
    go_wp2
    exact bodyPost_ret (v := .agg #[.bool (ngB (-q).num), .slice A9 (digs 10000 (-q).num.natAbs).length c9, .slice D9 (digs 10000 (-q).den).length e9]) (by simp [results, Tryz.results69, go_sem, C0, C1, C2]) rfl ⟨_, rfl, ⟨_, _, rfl, k9, d9⟩, bb9⟩
set_option maxHeartbeats 1600000 in
set_option maxRecDepth 100000 in
theorem qmul_any (a0 : Value) (x : Rat) (a1 : Value) (y : Rat) (w : World) (h0 : IsP w a0 x) (h1 : IsP w a1 y) (hl : lenQ x 10000) (hl2 : lenQ y 10000) :
    Calls Tryz.prog 36 #[a0, a1] w (RetPF (x * y) w) := by
  obtain ⟨u0, t0, rfl, s0, r0⟩ := h0
  obtain ⟨A0, c0, rfl, _⟩ := id s0
  obtain ⟨D0, e0, rfl, _⟩ := id r0
  obtain ⟨u1, t1, rfl, s1, r1⟩ := h1
  obtain ⟨A1, c1, rfl, _⟩ := id s1
  obtain ⟨D1, e1, rfl, _⟩ := id r1
  have HM : Hid (mkRat (x.num * y.num) (x.den * y.den) = x * y) := (Rat.mul_def' x y).symm
  have HLZ : Hid (lenZ (x.num * y.num) ≤ 30000) := Nat.le_trans (lenZ_mul_le hl.1 hl2.1) (by decide)
  have HLD : Hid ((digs 4294967296 (x.den * y.den)).length ≤ 30000) := by show _ ≤ _; have := mul_len x.den y.den; have h1 := hl.2; have h2 := hl2.2; omega
  go_enter Tryz.func36, Tryz.ntmps36
  go_upto_region 1 with (fail)
  obtain ⟨wx, hwx, bb, B0, B1, BR0, hsz⟩ := vars3 w 45 45 45 #[.bool (ngB (x).num), .slice A0 (digs 10000 (x).num.natAbs).length c0, .slice D0 (digs 10000 (x).den).length e0] #[.bool (ngB (y).num), .slice A1 (digs 10000 (y).num.natAbs).length c1, .slice D1 (digs 10000 (y).den).length e1] #[.bool false, .slice none 0 0, .slice none 0 0]
  rw [hwx]
  clear hwx
  have k0s := s0.below bb
  have k0d := r0.below bb
  have k0z : IsR wx (.agg #[.bool (ngB (x).num), .slice A0 (digs 10000 (x).num.natAbs).length c0]) (x).num := ⟨_, rfl, k0s⟩
  have k0 : IsP wx (.agg #[.bool (ngB (x).num), .slice A0 (digs 10000 (x).num.natAbs).length c0, .slice D0 (digs 10000 (x).den).length e0]) (x) := ⟨_, _, rfl, k0s, k0d⟩
  have k1s := s1.below bb
  have k1d := r1.below bb
  have k1z : IsR wx (.agg #[.bool (ngB (y).num), .slice A1 (digs 10000 (y).num.natAbs).length c1]) (y).num := ⟨_, rfl, k1s⟩
  have k1 : IsP wx (.agg #[.bool (ngB (y).num), .slice A1 (digs 10000 (y).num.natAbs).length c1, .slice D1 (digs 10000 (y).den).length e1]) (y) := ⟨_, _, rfl, k1s, k1d⟩
  have hsz0 := bb.size
  have sB := bb.size
  refine flow 11 [Pd.eq (.pointer (some ⟨w.heap.size, 0, none⟩)), Pd.eq (.agg #[.bool (ngB (x).num), .slice A0 (digs 10000 (x).num.natAbs).length c0]), Pd.eq (.pointer (some ⟨w.heap.size + 1, 0, none⟩)), Pd.eq (.agg #[.bool (ngB (y).num), .slice A1 (digs 10000 (y).num.natAbs).length c1]), pr ((x.num * y.num)), Pd.eq (.pointer (some ⟨w.heap.size, 2, none⟩)), Pd.eq (.slice D0 (digs 10000 (x).den).length e0), Pd.eq (.pointer (some ⟨w.heap.size + 1, 2, none⟩)), Pd.eq (.slice D1 (digs 10000 (y).den).length e1), ps .i64 (digs 10000 (x.den * y.den)) wx.heap.size, ppf (x * y) wx.heap.size] (by kernel_rfl) (by kernel_rfl) ?ob12 ?done12
  case ob12 =>
    refine And.intro (ob_fieldAddr rfl (wt_none rfl) (ev_far rfl rfl) (fun _ => by kernel_rfl) (fun _ => rfl)) ?_
    refine And.intro (ob_load rfl (wt_none rfl) (ev_dep (j := 0) (by kernel_rfl) rfl rfl) (fun w2 hb => run_loadPart Tryz.underlying43 rfl (by kernel_rfl) (B0.drew.below hb) rfl) (fun _ _ => rfl)) ?_
    refine And.intro (ob_fieldAddr rfl (wt_none rfl) (ev_far rfl rfl) (fun _ => by kernel_rfl) (fun _ => rfl)) ?_
    refine And.intro (ob_load rfl (wt_none rfl) (ev_dep (j := 2) (by kernel_rfl) rfl rfl) (fun w2 hb => run_loadPart Tryz.underlying43 rfl (by kernel_rfl) (B1.drew.below hb) rfl) (fun _ _ => rfl)) ?_
    refine And.intro (ob_call2 rfl Tryz.func64 (by kernel_rfl) (wt_none rfl) (ev_dep (j := 1) (by kernel_rfl) rfl rfl) (ev_dep (j := 3) (by kernel_rfl) rfl rfl) (fun w2 u0 u1 hb h0 h1 => by obtain rfl := h0; obtain rfl := h1; exact (rmul_any _ _ _ _ _ (k0z.drew.below hb) (k1z.drew.below hb) (Nat.le_trans hl.1 (by decide)) (Nat.le_trans hl2.1 (by decide))).mono fun e w3 h => RetR.pd h)) ?_
    refine And.intro (ob_fieldAddr rfl (wt_none rfl) (ev_far rfl rfl) (fun _ => by kernel_rfl) (fun _ => rfl)) ?_
    refine And.intro (ob_load rfl (wt_none rfl) (ev_dep (j := 5) (by kernel_rfl) rfl rfl) (fun w2 hb => run_load1 Tryz.underlying41 rfl ((B0.drew.below hb).cell 2)) (fun _ _ => rfl)) ?_
    refine And.intro (ob_fieldAddr rfl (wt_none rfl) (ev_far rfl rfl) (fun _ => by kernel_rfl) (fun _ => rfl)) ?_
    refine And.intro (ob_load rfl (wt_none rfl) (ev_dep (j := 7) (by kernel_rfl) rfl rfl) (fun w2 hb => run_load1 Tryz.underlying41 rfl ((B1.drew.below hb).cell 2)) (fun _ _ => rfl)) ?_
    refine And.intro (ob_call2 rfl Tryz.func65 (by kernel_rfl) (wt_none rfl) (ev_dep (j := 6) (by kernel_rfl) rfl rfl) (ev_dep (j := 8) (by kernel_rfl) rfl rfl) (fun w2 u0 u1 hb h0 h1 => by obtain rfl := h0; obtain rfl := h1; exact (refMul_any _ _ x.den y.den _ (k0d.drew.below hb) (k1d.drew.below hb) (Nat.le_trans (dec_le _) (by have := hl.2; omega)) (Nat.le_trans (dec_le _) (by have := hl2.2; omega))).mono fun e w3 h => RetS.pd h hb.size)) ?_
    refine And.intro (ob_call2 rfl Tryz.func26 (by kernel_rfl) (wt_none rfl) (ev_dep (j := 4) (by kernel_rfl) rfl rfl) (ev_dep (j := 9) (by kernel_rfl) rfl rfl) (fun w2 u0 u1 hb h0 h1 => by exact (HM.out ▸ rlow_any _ (x.num * y.num) _ (x.den * y.den) _ h0 h1.1 (Nat.mul_ne_zero x.den_nz y.den_nz) HLZ.out HLD.out).mono fun e w3 h => RetPF.pdf h hb.size)) ?_
    trivial
  case done12 =>
    refine fun w11 hb11 v0 h0 v1 h1 v2 h2 v3 h3 v4 h4 v5 h5 v6 h6 v7 h7 v8 h8 v9 h9 v10 h10 b hbf => ?_
    obtain rfl := h0; obtain rfl := h1; obtain rfl := h2; obtain rfl := h3; obtain rfl := h5; obtain rfl := h6; obtain rfl := h7; obtain rfl := h8
    have q4 := h4
    obtain ⟨q9, f9⟩ := h9
    obtain ⟨q10, f10⟩ := h10
    simp only [Act.put, List.setIfInBounds_toArray, List.set_cons_zero, List.set_cons_succ] at hbf
    subst hbf
    replace B0 := B0.below hb11
    replace k0s := k0s.below hb11
    replace k0d := k0d.below hb11
    replace k0z := k0z.below hb11
    replace k0 := k0.below hb11
    replace B1 := B1.below hb11
    replace k1s := k1s.below hb11
    replace k1d := k1d.below hb11
    replace k1z := k1z.below hb11
    replace k1 := k1.below hb11
    replace BR0 := BR0.below hb11
    replace bb := bb.trans (hb11.mono bb.size)
    have hsz11 := bb.size
    have s_9 := sB
    have s_10 := sB
    obtain ⟨u10, t10, rfl, q10, d10⟩ := q10
    obtain ⟨A9, c9, rfl, _⟩ := id q10
    obtain ⟨D9, e9, rfl, _⟩ := id d10
    refine any_store (i := 11) (by kernel_rfl) rfl rfl rfl rfl rfl rfl (cells := [.bool (ngB (x * y).num), .slice A9 (digs 10000 (x * y).num.natAbs).length c9, .slice D9 (digs 10000 (x * y).den).length e9]) rfl BR0 rfl (by kernel_rfl) (one3 rfl rfl rfl) fun w9 hg9 B9 => ?_
    have k9 := off q10 BR0 no_ints3 hg9
    have d9 := off d10 BR0 no_ints3 hg9
    have f9 := f10.mono (show w.heap.size ≤ _ from s_10)
    have bb9 := bb.trans ((Below.refl _ _).grown hg9 bb.size (fun g hg => by injection hg with hg; omega))
    obtain ⟨C0, C1, C2, _, _, _⟩ := three B9
    refine any_done (by kernel_rfl) ?_
    go_wp2
    exact bodyPost_ret (v := .agg #[.bool (ngB (x * y).num), .slice A9 (digs 10000 (x * y).num.natAbs).length c9, .slice D9 (digs 10000 (x * y).den).length e9]) (by simp [results, Tryz.results36, go_sem, C0, C1, C2]) rfl ⟨_, rfl, ⟨_, _, rfl, k9, d9⟩, f9, bb9⟩
set_option maxHeartbeats 1600000 in
set_option maxRecDepth 100000 in
theorem qzero_any (a0 : Value) (q : Rat) (b : Bool) (w : World) (h0 : IsP w a0 q) (hb : b = decide (q = 0)) :
    Calls Tryz.prog 17 #[a0] w (RetV (.bool b) w) := by
  have HB : Hid (((((digs 10000 q.num.natAbs).length : Nat) : Int) == 0) = b) := by
    show _ = _
    have h1 := digs_len0 (B := 10000) (by omega) (x := q.num.natAbs)
    rw [hb, Bool.eq_iff_iff, beq_iff_eq, decide_eq_true_eq, ← Rat.num_eq_zero]
    omega
  clear hb
  obtain ⟨u0, t0, rfl, s0, r0⟩ := h0
  obtain ⟨A0, c0, rfl, _⟩ := id s0
  obtain ⟨D0, e0, rfl, _⟩ := id r0
  go_enter Tryz.func17, Tryz.ntmps17
  go_upto_region 1 with (fail)
  obtain ⟨wx, hwx, bb, B0, hsz⟩ := vars1 w 45 #[.bool (ngB (q).num), .slice A0 (digs 10000 (q).num.natAbs).length c0, .slice D0 (digs 10000 (q).den).length e0]
  rw [hwx]
  clear hwx
  have k0s := s0.below bb
  have k0d := r0.below bb
  have k0z : IsR wx (.agg #[.bool (ngB (q).num), .slice A0 (digs 10000 (q).num.natAbs).length c0]) (q).num := ⟨_, rfl, k0s⟩
  have k0 : IsP wx (.agg #[.bool (ngB (q).num), .slice A0 (digs 10000 (q).num.natAbs).length c0, .slice D0 (digs 10000 (q).den).length e0]) (q) := ⟨_, _, rfl, k0s, k0d⟩
  have hsz0 := bb.size
  have sB := bb.size
  refine flowp 6 [Pd.eq (.pointer (some ⟨w.heap.size, 0, none⟩)), Pd.eq (.pointer (some ⟨w.heap.size, 1, none⟩)), Pd.eq (.slice A0 (digs 10000 (q).num.natAbs).length c0), Pd.eq (.int .i64 (((digs 10000 (q).num.natAbs).length : Nat) : Int)), Pd.eq (.bool b), Pd.eq (.bool b)] (by kernel_rfl) ?ob15 ?done15
  case ob15 =>
    refine And.intro (ob_fieldAddr rfl (wt_none rfl) (ev_far rfl rfl) (fun _ => by kernel_rfl) (fun _ => rfl)) ?_
    refine And.intro (ob_fieldAddr rfl (wt_none rfl) (ev_dep (j := 0) (by kernel_rfl) rfl rfl) (fun _ => by kernel_rfl) (fun _ => rfl)) ?_
    refine And.intro (ob_load rfl (wt_none rfl) (ev_dep (j := 1) (by kernel_rfl) rfl rfl) (fun w2 hb => run_load1 Tryz.underlying41 rfl ((B0.below hb).cell 1)) (fun _ _ => rfl)) ?_
    refine And.intro (ob_len rfl (wt_none rfl) (ev_dep (j := 2) (by kernel_rfl) rfl rfl) (fun _ _ hx => ⟨_, by rw [hx]; exact len_slice Tryz.underlying41 _ _ _ _, rfl⟩)) ?_
    refine And.intro (ob_bin rfl (wt_none rfl) (ev_dep (j := 3) (by kernel_rfl) rfl rfl) (ev_const _) (fun _ _ _ hx hy => ⟨.bool b, by rw [hx, hy, bin_eql_int, HB.out], rfl⟩)) ?_
    refine And.intro (ob_assign rfl (wt_none rfl) (ev_dep (j := 4) (by kernel_rfl) rfl rfl) (fun _ _ h => h)) ?_
    trivial
  case done15 =>
    refine fun w11 hb11 v0 h0 v1 h1 v2 h2 v3 h3 v4 h4 v5 h5 b hbf => ?_
    obtain rfl := h0; obtain rfl := h1; obtain rfl := h2; obtain rfl := h3; obtain rfl := h4; obtain rfl := h5
    simp only [Act.put, List.setIfInBounds_toArray, List.set_cons_zero, List.set_cons_succ] at hbf
    subst hbf
    replace B0 := B0.below hb11
    replace k0s := k0s.below hb11
    replace k0d := k0d.below hb11
    replace k0z := k0z.below hb11
    replace k0 := k0.below hb11
    replace bb := bb.trans (hb11.mono bb.size)
    have hsz11 := bb.size
    refine ops_done ?_
    go_wp2
    go_ret
    exact ⟨rfl, bb⟩
set_option maxHeartbeats 1600000 in
set_option maxRecDepth 100000 in
theorem rnum7_any (n : Int) (w : World) (h1 : -9223372036854775807 ≤ n) (h2 : n ≤ 9223372036854775807) :
    Calls Tryz.prog 40 #[.int .i64 n] w (RetR n w) := by
  by_cases hn : n < 0
  · have HZ : Hid (sg true n.natAbs = n) := by show _ = _; rw [sg_true]; omega
    go_enter Tryz.func40, Tryz.ntmps40
    go_upto_region 1 with (fail)
    obtain ⟨wx, hwx, bb, BR0, hsz⟩ := vars1 w 43 #[.bool false, .slice none 0 0]
    rw [hwx]
    clear hwx
    go_upto_region 2 with (fail)
    refine flowp 4 [Pd.eq (.int .i64 n), Pd.eq (.int .i64 (-n)), ps .i64 (digs 10000 n.natAbs) wx.heap.size, pr (n)] (by kernel_rfl) ?ob16 ?done16
    case ob16 =>
      refine And.intro (ob_move rfl (wt_none rfl) (ev_far rfl rfl) (fun _ _ h => h)) ?_
      refine And.intro (ob_un rfl (wt_none rfl) (ev_dep (j := 0) (by kernel_rfl) rfl rfl) (fun _ => un_neg _ _ (by omega)) (fun _ => rfl)) ?_
      refine And.intro (ob_call1 rfl Tryz.func41 (by kernel_rfl) (wt_none rfl) (ev_dep (j := 1) (by kernel_rfl) rfl rfl) (fun w2 u0 hb h0 => by obtain rfl := h0; exact (refNum_wide _ n.natAbs _ (by omega) (by omega)).mono fun e w3 h => RetS.pd h hb.size)) ?_
      refine And.intro (ob_call2 rfl Tryz.func53 (by kernel_rfl) (wt_none rfl) (ev_const _) (ev_dep (j := 2) (by kernel_rfl) rfl rfl) (fun w2 u0 u1 hb h0 h1 => by obtain rfl := h0; exact made_pd _ _ _ n _ h1.1 HZ.out)) ?_
      trivial
    case done16 =>
      refine fun w1 hb1 v0 h0 v1 h1 v2 h2 v3 h3 b hbf => ?_
      obtain rfl := h0; obtain rfl := h1
      obtain ⟨q2, f2⟩ := h2
      have q3 := h3
      simp only [Act.put, List.setIfInBounds_toArray, List.set_cons_zero, List.set_cons_succ] at hbf
      subst hbf
      replace BR0 := BR0.below hb1
      replace bb := bb.trans (hb1.mono bb.size)
      have hsz1 := bb.size
      obtain ⟨u3, rfl, q3⟩ := q3
      obtain ⟨A9, c9, rfl, _⟩ := id q3
      refine ops_store (i := 4) rfl rfl rfl rfl rfl rfl (cells := [.bool (ngB n), .slice A9 (digs 10000 n.natAbs).length c9]) rfl BR0 rfl (by kernel_rfl) (one2 rfl rfl) fun w9 hg9 B9 => ?_
      have k9 := off q3 BR0 no_ints2 hg9
      have bb9 := bb.trans ((Below.refl _ _).grown hg9 bb.size (fun g hg => by injection hg with hg; omega))
      obtain ⟨c0, c1, _, _⟩ := Blk.two B9
      refine ops_done ?_
      go_wp2
      exact bodyPost_ret (v := .agg #[.bool (ngB n), .slice A9 (digs 10000 n.natAbs).length c9]) (by simp [results, Tryz.results40, go_sem, c0, c1]) rfl ⟨_, rfl, ⟨_, rfl, k9⟩, bb9⟩
  · have HZ : Hid (sg false n.natAbs = n) := by show _ = _; rw [sg_false]; omega
    go_enter Tryz.func40, Tryz.ntmps40
    go_upto_region 1 with (fail)
    obtain ⟨wx, hwx, bb, BR0, hsz⟩ := vars1 w 43 #[.bool false, .slice none 0 0]
    rw [hwx]
    clear hwx
    go_upto_region 3 with (fail)
    refine flowp 3 [Pd.eq (.int .i64 n), ps .i64 (digs 10000 n.natAbs) wx.heap.size, pr (n)] (by kernel_rfl) ?ob17 ?done17
    case ob17 =>
      refine And.intro (ob_move rfl (wt_none rfl) (ev_far rfl rfl) (fun _ _ h => h)) ?_
      refine And.intro (ob_call1 rfl Tryz.func41 (by kernel_rfl) (wt_none rfl) (ev_dep (j := 0) (by kernel_rfl) rfl rfl) (fun w2 u0 hb h0 => by obtain rfl := h0; exact (refNum_wide _ n.natAbs _ (by omega) (by omega)).mono fun e w3 h => RetS.pd h hb.size)) ?_
      refine And.intro (ob_call2 rfl Tryz.func53 (by kernel_rfl) (wt_none rfl) (ev_const _) (ev_dep (j := 1) (by kernel_rfl) rfl rfl) (fun w2 u0 u1 hb h0 h1 => by obtain rfl := h0; exact made_pd _ _ _ n _ h1.1 HZ.out)) ?_
      trivial
    case done17 =>
      refine fun w1 hb1 v0 h0 v1 h1 v2 h2 b hbf => ?_
      obtain rfl := h0
      obtain ⟨q1, f1⟩ := h1
      have q2 := h2
      simp only [Act.put, List.setIfInBounds_toArray, List.set_cons_zero, List.set_cons_succ] at hbf
      subst hbf
      replace BR0 := BR0.below hb1
      replace bb := bb.trans (hb1.mono bb.size)
      have hsz1 := bb.size
      obtain ⟨u2, rfl, q2⟩ := q2
      obtain ⟨A9, c9, rfl, _⟩ := id q2
      refine ops_store (i := 3) rfl rfl rfl rfl rfl rfl (cells := [.bool (ngB n), .slice A9 (digs 10000 n.natAbs).length c9]) rfl BR0 rfl (by kernel_rfl) (one2 rfl rfl) fun w9 hg9 B9 => ?_
      have k9 := off q2 BR0 no_ints2 hg9
      have bb9 := bb.trans ((Below.refl _ _).grown hg9 bb.size (fun g hg => by injection hg with hg; omega))
      obtain ⟨c0, c1, _, _⟩ := Blk.two B9
      refine ops_done ?_
      go_wp2
      exact bodyPost_ret (v := .agg #[.bool (ngB n), .slice A9 (digs 10000 n.natAbs).length c9]) (by simp [results, Tryz.results40, go_sem, c0, c1]) rfl ⟨_, rfl, ⟨_, rfl, k9⟩, bb9⟩
set_option maxHeartbeats 1600000 in
set_option maxRecDepth 100000 in
theorem qnum_any (n : Int) (d : Int) (w : World)  (dn : Nat) (hd : d = (dn : Int)) (h1 : -9223372036854775807 ≤ n) (h2 : n ≤ 9223372036854775807) (h3 : dn ≠ 0) (h4 : dn ≤ 9223372036854775807) :
    Calls Tryz.prog 15 #[.int .i64 n, .int .i64 d] w (RetPF (mkRat n dn) w) := by
  have HLZ : Hid (lenZ n ≤ 30000) := Nat.le_trans (dig32 (by omega)) (by decide)
  have HLD : Hid ((digs 4294967296 dn).length ≤ 30000) := Nat.le_trans (dig32 (by omega)) (by decide)
  go_enter Tryz.func15, Tryz.ntmps15
  go_upto_region 1 with (fail)
  obtain ⟨wx, hwx, bb, BR0, hsz⟩ := vars1 w 45 #[.bool false, .slice none 0 0, .slice none 0 0]
  rw [hwx]
  clear hwx
  have hsz0 := bb.size
  have sB := bb.size
  refine flowp 5 [Pd.eq (.int .i64 n), pr (n), Pd.eq (.int .i64 d), ps .i64 (digs 10000 dn) wx.heap.size, ppf (mkRat n dn) wx.heap.size] (by kernel_rfl) ?ob18 ?done18
  case ob18 =>
    refine And.intro (ob_move rfl (wt_none rfl) (ev_far rfl rfl) (fun _ _ h => h)) ?_
    refine And.intro (ob_call1 rfl Tryz.func40 (by kernel_rfl) (wt_none rfl) (ev_dep (j := 0) (by kernel_rfl) rfl rfl) (fun w2 u0 hb h0 => by obtain rfl := h0; exact (rnum7_any n _ h1 h2).mono fun e w3 h => RetR.pd h)) ?_
    refine And.intro (ob_move rfl (wt_none rfl) (ev_far rfl rfl) (fun _ _ h => h)) ?_
    refine And.intro (ob_call1 rfl Tryz.func41 (by kernel_rfl) (wt_none rfl) (ev_dep (j := 2) (by kernel_rfl) rfl rfl) (fun w2 u0 hb h0 => by obtain rfl := h0; exact (refNum_wide _ dn _ hd h4).mono fun e w3 h => RetS.pd h hb.size)) ?_
    refine And.intro (ob_call2 rfl Tryz.func26 (by kernel_rfl) (wt_none rfl) (ev_dep (j := 1) (by kernel_rfl) rfl rfl) (ev_dep (j := 3) (by kernel_rfl) rfl rfl) (fun w2 u0 u1 hb h0 h1 => by exact (rlow_any _ n _ dn _ h0 h1.1 h3 HLZ.out HLD.out).mono fun e w3 h => RetPF.pdf h hb.size)) ?_
    trivial
  case done18 =>
    refine fun w11 hb11 v0 h0 v1 h1 v2 h2 v3 h3 v4 h4 b hbf => ?_
    obtain rfl := h0; obtain rfl := h2
    have q1 := h1
    obtain ⟨q3, f3⟩ := h3
    obtain ⟨q4, f4⟩ := h4
    simp only [Act.put, List.setIfInBounds_toArray, List.set_cons_zero, List.set_cons_succ] at hbf
    subst hbf
    replace BR0 := BR0.below hb11
    replace bb := bb.trans (hb11.mono bb.size)
    have hsz11 := bb.size
    have s_3 := sB
    have s_4 := sB
    obtain ⟨u4, t4, rfl, q4, d4⟩ := q4
    obtain ⟨A9, c9, rfl, _⟩ := id q4
    obtain ⟨D9, e9, rfl, _⟩ := id d4
    refine ops_store (i := 5) rfl rfl rfl rfl rfl rfl (cells := [.bool (ngB (mkRat n dn).num), .slice A9 (digs 10000 (mkRat n dn).num.natAbs).length c9, .slice D9 (digs 10000 (mkRat n dn).den).length e9]) rfl BR0 rfl (by kernel_rfl) (one3 rfl rfl rfl) fun w9 hg9 B9 => ?_
    have k9 := off q4 BR0 no_ints3 hg9
    have d9 := off d4 BR0 no_ints3 hg9
    have f9 := f4.mono (show w.heap.size ≤ _ from s_4)
    have bb9 := bb.trans ((Below.refl _ _).grown hg9 bb.size (fun g hg => by injection hg with hg; omega))
    obtain ⟨C0, C1, C2, _, _, _⟩ := three B9
    refine ops_done ?_
    go_wp2
    exact bodyPost_ret (v := .agg #[.bool (ngB (mkRat n dn).num), .slice A9 (digs 10000 (mkRat n dn).num.natAbs).length c9, .slice D9 (digs 10000 (mkRat n dn).den).length e9]) (by simp [results, Tryz.results15, go_sem, C0, C1, C2]) rfl ⟨_, rfl, ⟨_, _, rfl, k9, d9⟩, f9, bb9⟩
set_option maxHeartbeats 1600000 in
set_option maxRecDepth 100000 in
theorem qsame_parts (b : Bool) (u0 t0 u1 t1 : Value) (z : Int) (d : Nat) (w : World) (hb : b = ngB z) (h0 : IsS w .u64 u0 (digs 4294967296 z.natAbs)) (j0 : IsS w .u64 t0 (digs 4294967296 d)) (h1 : IsS w .u64 u1 (digs 4294967296 z.natAbs)) (j1 : IsS w .u64 t1 (digs 4294967296 d)) :
    Calls Tryz.prog 22 #[.agg #[.bool b, u0, t0], .agg #[.bool b, u1, t1]] w (RetV (.bool true) w) := by
  obtain ⟨A0, c0, rfl, _⟩ := id h0
  obtain ⟨D0, e0, rfl, _⟩ := id j0
  obtain ⟨A1, c1, rfl, _⟩ := id h1
  obtain ⟨D1, e1, rfl, _⟩ := id j1
  subst hb
  go_enter Tryz.func22, Tryz.ntmps22
  go_upto_region 1 with (fail)
  obtain ⟨wx, hwx, bb, B0, B1, hsz⟩ := vars2 w 28 28 #[.bool (ngB z), .slice A0 (digs 4294967296 z.natAbs).length c0, .slice D0 (digs 4294967296 d).length e0] #[.bool (ngB z), .slice A1 (digs 4294967296 z.natAbs).length c1, .slice D1 (digs 4294967296 d).length e1]
  rw [hwx]
  clear hwx
  have k0s := h0.below bb
  have k0d := j0.below bb
  have k0z : IsZ wx (.agg #[.bool (ngB z), .slice A0 (digs 4294967296 z.natAbs).length c0]) z := ⟨_, rfl, k0s⟩
  have k1s := h1.below bb
  have k1d := j1.below bb
  have k1z : IsZ wx (.agg #[.bool (ngB z), .slice A1 (digs 4294967296 z.natAbs).length c1]) z := ⟨_, rfl, k1s⟩
  refine flowp 13 [Pd.eq (.pointer (some ⟨w.heap.size, 0, none⟩)), Pd.eq (.agg #[.bool (ngB z), .slice A0 (digs 4294967296 z.natAbs).length c0]), Pd.eq (.pointer (some ⟨w.heap.size + 1, 0, none⟩)), Pd.eq (.agg #[.bool (ngB z), .slice A1 (digs 4294967296 z.natAbs).length c1]), Pd.eq (.bool true), Pd.eq (.bool true), Pd.eq (.pointer (some ⟨w.heap.size, 2, none⟩)), Pd.eq (.slice D0 (digs 4294967296 d).length e0), Pd.eq (.pointer (some ⟨w.heap.size + 1, 2, none⟩)), Pd.eq (.slice D1 (digs 4294967296 d).length e1), Pd.eq (.bool true), Pd.eq (.bool true), Pd.eq (.bool true)] (by kernel_rfl) ?ob19 ?done19
  case ob19 =>
    refine And.intro (ob_fieldAddr rfl (wt_none rfl) (ev_far rfl rfl) (fun _ => by kernel_rfl) (fun _ => rfl)) ?_
    refine And.intro (ob_load rfl (wt_none rfl) (ev_dep (j := 0) (by kernel_rfl) rfl rfl) (fun w2 hb => run_loadPart Tryz.underlying26 rfl (by kernel_rfl) (B0.below hb) rfl) (fun _ _ => rfl)) ?_
    refine And.intro (ob_fieldAddr rfl (wt_none rfl) (ev_far rfl rfl) (fun _ => by kernel_rfl) (fun _ => rfl)) ?_
    refine And.intro (ob_load rfl (wt_none rfl) (ev_dep (j := 2) (by kernel_rfl) rfl rfl) (fun w2 hb => run_loadPart Tryz.underlying26 rfl (by kernel_rfl) (B1.below hb) rfl) (fun _ _ => rfl)) ?_
    refine And.intro (ob_call2 rfl Tryz.func46 (by kernel_rfl) (wt_none rfl) (ev_dep (j := 1) (by kernel_rfl) rfl rfl) (ev_dep (j := 3) (by kernel_rfl) rfl rfl) (fun w2 u0 u1 hb h0 h1 => by obtain rfl := h0; obtain rfl := h1; exact (zsame_one _ _ z _ (k0z.below hb) (k1z.below hb)).mono fun e w3 h => RetV.pd h)) ?_
    refine And.intro (ob_move rfl (wt_none rfl) (ev_dep (j := 4) (by kernel_rfl) rfl rfl) (fun _ _ h => h)) ?_
    refine And.intro (ob_fieldAddr rfl (wt_dep (c := true) (b := true) (g := 5) rfl (by kernel_rfl) rfl rfl rfl (by exact fun _ _ h => h)) (ev_far rfl rfl) (fun _ => by kernel_rfl) (fun _ => rfl)) ?_
    refine And.intro (ob_load rfl (wt_dep (c := true) (b := true) (g := 5) rfl (by kernel_rfl) rfl rfl rfl (by exact fun _ _ h => h)) (ev_dep (j := 6) (by kernel_rfl) rfl rfl) (fun w2 hb => run_load1 Tryz.underlying24 rfl ((B0.below hb).cell 2)) (fun _ _ => rfl)) ?_
    refine And.intro (ob_fieldAddr rfl (wt_dep (c := true) (b := true) (g := 5) rfl (by kernel_rfl) rfl rfl rfl (by exact fun _ _ h => h)) (ev_far rfl rfl) (fun _ => by kernel_rfl) (fun _ => rfl)) ?_
    refine And.intro (ob_load rfl (wt_dep (c := true) (b := true) (g := 5) rfl (by kernel_rfl) rfl rfl rfl (by exact fun _ _ h => h)) (ev_dep (j := 8) (by kernel_rfl) rfl rfl) (fun w2 hb => run_load1 Tryz.underlying24 rfl ((B1.below hb).cell 2)) (fun _ _ => rfl)) ?_
    refine And.intro (ob_call2 rfl Tryz.func47 (by kernel_rfl) (wt_dep (c := true) (b := true) (g := 5) rfl (by kernel_rfl) rfl rfl rfl (by exact fun _ _ h => h)) (ev_dep (j := 7) (by kernel_rfl) rfl rfl) (ev_dep (j := 9) (by kernel_rfl) rfl rfl) (fun w2 u0 u1 hb h0 h1 => by obtain rfl := h0; obtain rfl := h1; exact (same_one _ _ d _ (k0d.below hb) (k1d.below hb)).mono fun e w3 h => RetV.pd h)) ?_
    refine And.intro (ob_pick (b := true) rfl (wt_none rfl) (ev_dep (j := 5) (by kernel_rfl) rfl rfl) (ev_dep (j := 10) (by kernel_rfl) rfl rfl) (fun _ _ h => h)) ?_
    refine And.intro (ob_assign rfl (wt_none rfl) (ev_dep (j := 11) (by kernel_rfl) rfl rfl) (fun _ _ h => h)) ?_
    trivial
  case done19 =>
    refine fun w1 hb1 v0 h0 v1 h1 v2 h2 v3 h3 v4 h4 v5 h5 v6 h6 v7 h7 v8 h8 v9 h9 v10 h10 v11 h11 v12 h12 b hbf => ?_
    obtain rfl := h0; obtain rfl := h1; obtain rfl := h2; obtain rfl := h3; obtain rfl := h4; obtain rfl := h5; obtain rfl := h6; obtain rfl := h7; obtain rfl := h8; obtain rfl := h9; obtain rfl := h10; obtain rfl := h11; obtain rfl := h12
    simp only [Act.put, List.setIfInBounds_toArray, List.set_cons_zero, List.set_cons_succ] at hbf
    subst hbf
    refine ops_done ?_
    go_wp2
    go_ret
    exact ⟨rfl, bb.trans (hb1.mono bb.size)⟩
theorem qsame_one (a0 a1 : Value) (x : Rat) (w : World) (h0 : IsQ w a0 x) (h1 : IsQ w a1 x) : Calls Tryz.prog 22 #[a0, a1] w (RetV (.bool true) w) := by
  obtain ⟨u0, t0, rfl, s0, r0⟩ := h0
  obtain ⟨u1, t1, rfl, s1, r1⟩ := h1
  exact qsame_parts _ u0 t0 u1 t1 x.num x.den w rfl s0 r0 s1 r1
set_option maxHeartbeats 1600000 in
set_option maxRecDepth 100000 in
theorem zsame_any (a0 : Value) (x : Int) (a1 : Value) (y : Int) (b : Bool) (w : World) (h0 : IsZ w a0 x) (h1 : IsZ w a1 y) (hb : b = decide (x = y)) :
    Calls Tryz.prog 46 #[a0, a1] w (RetV (.bool b) w) := by
  rcases hs0 : ngB x with _ | _ <;> rcases hs1 : ngB y with _ | _
  · have HB : Hid (b = decide (x.natAbs = y.natAbs)) := by show _ = _; rw [hb, decide_eq_decide]; have := ngB_false hs0; have := ngB_false hs1; omega
    clear hb
    obtain ⟨u0, rfl, s0⟩ := h0
    obtain ⟨A0, c0, rfl, _⟩ := id s0
    obtain ⟨u1, rfl, s1⟩ := h1
    obtain ⟨A1, c1, rfl, _⟩ := id s1
    go_enter Tryz.func46, Tryz.ntmps46
    go_upto_region 1 with (fail)
    obtain ⟨wx, hwx, bb, B0, B1, hsz⟩ := vars2 w 26 26 #[.bool false, .slice A0 (digs 4294967296 (x).natAbs).length c0] #[.bool false, .slice A1 (digs 4294967296 (y).natAbs).length c1]
    rw [hwx]
    clear hwx
    have k0s := s0.below bb
    have k0 : IsZ wx (.agg #[.bool false, .slice A0 (digs 4294967296 (x).natAbs).length c0]) (x) := isZ_mk k0s rfl hs0.symm
    have k1s := s1.below bb
    have k1 : IsZ wx (.agg #[.bool false, .slice A1 (digs 4294967296 (y).natAbs).length c1]) (y) := isZ_mk k1s rfl hs1.symm
    have hsz0 := bb.size
    have sB := bb.size
    refine flowp 13 [Pd.eq (.pointer (some ⟨w.heap.size, 0, none⟩)), Pd.eq (.bool false), Pd.eq (.pointer (some ⟨w.heap.size + 1, 0, none⟩)), Pd.eq (.bool false), Pd.eq (.bool true), Pd.eq (.bool true), Pd.eq (.pointer (some ⟨w.heap.size, 1, none⟩)), Pd.eq (.slice A0 (digs 4294967296 (x).natAbs).length c0), Pd.eq (.pointer (some ⟨w.heap.size + 1, 1, none⟩)), Pd.eq (.slice A1 (digs 4294967296 (y).natAbs).length c1), Pd.eq (.bool b), Pd.eq (.bool b), Pd.eq (.bool b)] (by kernel_rfl) ?ob20 ?done20
    case ob20 =>
      refine And.intro (ob_fieldAddr rfl (wt_none rfl) (ev_far rfl rfl) (fun _ => by kernel_rfl) (fun _ => rfl)) ?_
      refine And.intro (ob_load rfl (wt_none rfl) (ev_dep (j := 0) (by kernel_rfl) rfl rfl) (fun w2 hb => run_load1 Tryz.underlying4 rfl ((B0.below hb).cell 0)) (fun _ _ => rfl)) ?_
      refine And.intro (ob_fieldAddr rfl (wt_none rfl) (ev_far rfl rfl) (fun _ => by kernel_rfl) (fun _ => rfl)) ?_
      refine And.intro (ob_load rfl (wt_none rfl) (ev_dep (j := 2) (by kernel_rfl) rfl rfl) (fun w2 hb => run_load1 Tryz.underlying4 rfl ((B1.below hb).cell 0)) (fun _ _ => rfl)) ?_
      refine And.intro (ob_bin rfl (wt_none rfl) (ev_dep (j := 1) (by kernel_rfl) rfl rfl) (ev_dep (j := 3) (by kernel_rfl) rfl rfl) (fun _ _ _ hx hy => ⟨.bool (false == false), by rw [hx, hy]; exact bin_eql_bool _ _ _ _ Tryz.underlying4 _, rfl⟩)) ?_
      refine And.intro (ob_move rfl (wt_none rfl) (ev_dep (j := 4) (by kernel_rfl) rfl rfl) (fun _ _ h => h)) ?_
      refine And.intro (ob_fieldAddr rfl (wt_dep (c := true) (b := true) (g := 5) rfl (by kernel_rfl) rfl rfl rfl (by exact fun _ _ h => h)) (ev_far rfl rfl) (fun _ => by kernel_rfl) (fun _ => rfl)) ?_
      refine And.intro (ob_load rfl (wt_dep (c := true) (b := true) (g := 5) rfl (by kernel_rfl) rfl rfl rfl (by exact fun _ _ h => h)) (ev_dep (j := 6) (by kernel_rfl) rfl rfl) (fun w2 hb => run_load1 Tryz.underlying24 rfl ((B0.below hb).cell 1)) (fun _ _ => rfl)) ?_
      refine And.intro (ob_fieldAddr rfl (wt_dep (c := true) (b := true) (g := 5) rfl (by kernel_rfl) rfl rfl rfl (by exact fun _ _ h => h)) (ev_far rfl rfl) (fun _ => by kernel_rfl) (fun _ => rfl)) ?_
      refine And.intro (ob_load rfl (wt_dep (c := true) (b := true) (g := 5) rfl (by kernel_rfl) rfl rfl rfl (by exact fun _ _ h => h)) (ev_dep (j := 8) (by kernel_rfl) rfl rfl) (fun w2 hb => run_load1 Tryz.underlying24 rfl ((B1.below hb).cell 1)) (fun _ _ => rfl)) ?_
      refine And.intro (ob_call2 rfl Tryz.func47 (by kernel_rfl) (wt_dep (c := true) (b := true) (g := 5) rfl (by kernel_rfl) rfl rfl rfl (by exact fun _ _ h => h)) (ev_dep (j := 7) (by kernel_rfl) rfl rfl) (ev_dep (j := 9) (by kernel_rfl) rfl rfl) (fun w2 u0 u1 hb h0 h1 => by obtain rfl := h0; obtain rfl := h1; exact (same_num _ _ x.natAbs y.natAbs b _ (k0s.below hb) (k1s.below hb) HB.out).mono fun e w3 h => RetV.pd h)) ?_
      refine And.intro (ob_pick (b := true) rfl (wt_none rfl) (ev_dep (j := 5) (by kernel_rfl) rfl rfl) (ev_dep (j := 10) (by kernel_rfl) rfl rfl) (fun _ _ h => h)) ?_
      refine And.intro (ob_assign rfl (wt_none rfl) (ev_dep (j := 11) (by kernel_rfl) rfl rfl) (fun _ _ h => h)) ?_
      trivial
    case done20 =>
      refine fun w11 hb11 v0 h0 v1 h1 v2 h2 v3 h3 v4 h4 v5 h5 v6 h6 v7 h7 v8 h8 v9 h9 v10 h10 v11 h11 v12 h12 b hbf => ?_
      obtain rfl := h0; obtain rfl := h1; obtain rfl := h2; obtain rfl := h3; obtain rfl := h4; obtain rfl := h5; obtain rfl := h6; obtain rfl := h7; obtain rfl := h8; obtain rfl := h9; obtain rfl := h10; obtain rfl := h11; obtain rfl := h12
      simp only [Act.put, List.setIfInBounds_toArray, List.set_cons_zero, List.set_cons_succ] at hbf
      subst hbf
      replace B0 := B0.below hb11
      replace k0s := k0s.below hb11
      replace k0 := k0.below hb11
      replace B1 := B1.below hb11
      replace k1s := k1s.below hb11
      replace k1 := k1.below hb11
      replace bb := bb.trans (hb11.mono bb.size)
      have hsz11 := bb.size
      refine ops_done ?_
      go_wp2
      go_ret
      exact ⟨rfl, bb⟩
  · obtain rfl : b = false := by rw [hb, decide_eq_false_iff_not]; have := ngB_false hs0; have := ngB_true hs1; omega
    clear hb
    obtain ⟨u0, rfl, s0⟩ := h0
    obtain ⟨A0, c0, rfl, _⟩ := id s0
    obtain ⟨u1, rfl, s1⟩ := h1
    obtain ⟨A1, c1, rfl, _⟩ := id s1
    go_enter Tryz.func46, Tryz.ntmps46
    go_upto_region 1 with (fail)
    obtain ⟨wx, hwx, bb, B0, B1, hsz⟩ := vars2 w 26 26 #[.bool false, .slice A0 (digs 4294967296 (x).natAbs).length c0] #[.bool true, .slice A1 (digs 4294967296 (y).natAbs).length c1]
    rw [hwx]
    clear hwx
    have k0s := s0.below bb
    have k0 : IsZ wx (.agg #[.bool false, .slice A0 (digs 4294967296 (x).natAbs).length c0]) (x) := isZ_mk k0s rfl hs0.symm
    have k1s := s1.below bb
    have k1 : IsZ wx (.agg #[.bool true, .slice A1 (digs 4294967296 (y).natAbs).length c1]) (y) := isZ_mk k1s rfl hs1.symm
    have hsz0 := bb.size
    have sB := bb.size
    refine flowp 13 [Pd.eq (.pointer (some ⟨w.heap.size, 0, none⟩)), Pd.eq (.bool false), Pd.eq (.pointer (some ⟨w.heap.size + 1, 0, none⟩)), Pd.eq (.bool true), Pd.eq (.bool false), Pd.eq (.bool false), Pd.any, Pd.any, Pd.any, Pd.any, Pd.any, Pd.eq (.bool false), Pd.eq (.bool false)] (by kernel_rfl) ?ob21 ?done21
    case ob21 =>
      refine And.intro (ob_fieldAddr rfl (wt_none rfl) (ev_far rfl rfl) (fun _ => by kernel_rfl) (fun _ => rfl)) ?_
      refine And.intro (ob_load rfl (wt_none rfl) (ev_dep (j := 0) (by kernel_rfl) rfl rfl) (fun w2 hb => run_load1 Tryz.underlying4 rfl ((B0.below hb).cell 0)) (fun _ _ => rfl)) ?_
      refine And.intro (ob_fieldAddr rfl (wt_none rfl) (ev_far rfl rfl) (fun _ => by kernel_rfl) (fun _ => rfl)) ?_
      refine And.intro (ob_load rfl (wt_none rfl) (ev_dep (j := 2) (by kernel_rfl) rfl rfl) (fun w2 hb => run_load1 Tryz.underlying4 rfl ((B1.below hb).cell 0)) (fun _ _ => rfl)) ?_
      refine And.intro (ob_bin rfl (wt_none rfl) (ev_dep (j := 1) (by kernel_rfl) rfl rfl) (ev_dep (j := 3) (by kernel_rfl) rfl rfl) (fun _ _ _ hx hy => ⟨.bool (false == true), by rw [hx, hy]; exact bin_eql_bool _ _ _ _ Tryz.underlying4 _, rfl⟩)) ?_
      refine And.intro (ob_move rfl (wt_none rfl) (ev_dep (j := 4) (by kernel_rfl) rfl rfl) (fun _ _ h => h)) ?_
      refine And.intro (ob_not (wt_dep (c := false) (b := true) (g := 5) rfl (by kernel_rfl) rfl rfl rfl (by exact fun _ _ h => h)) (fun _ => trivial) rfl) ?_
      refine And.intro (ob_not (wt_dep (c := false) (b := true) (g := 5) rfl (by kernel_rfl) rfl rfl rfl (by exact fun _ _ h => h)) (fun _ => trivial) rfl) ?_
      refine And.intro (ob_not (wt_dep (c := false) (b := true) (g := 5) rfl (by kernel_rfl) rfl rfl rfl (by exact fun _ _ h => h)) (fun _ => trivial) rfl) ?_
      refine And.intro (ob_not (wt_dep (c := false) (b := true) (g := 5) rfl (by kernel_rfl) rfl rfl rfl (by exact fun _ _ h => h)) (fun _ => trivial) rfl) ?_
      refine And.intro (ob_not (wt_dep (c := false) (b := true) (g := 5) rfl (by kernel_rfl) rfl rfl rfl (by exact fun _ _ h => h)) (fun _ => trivial) rfl) ?_
      refine And.intro (ob_pick (b := false) rfl (wt_none rfl) (ev_dep (j := 5) (by kernel_rfl) rfl rfl) (ev_const _) (fun _ _ h => h)) ?_
      refine And.intro (ob_assign rfl (wt_none rfl) (ev_dep (j := 11) (by kernel_rfl) rfl rfl) (fun _ _ h => h)) ?_
      trivial
    case done21 =>
      refine fun w11 hb11 v0 h0 v1 h1 v2 h2 v3 h3 v4 h4 v5 h5 v6 h6 v7 h7 v8 h8 v9 h9 v10 h10 v11 h11 v12 h12 b hbf => ?_
      obtain rfl := h0; obtain rfl := h1; obtain rfl := h2; obtain rfl := h3; obtain rfl := h4; obtain rfl := h5; obtain rfl := h11; obtain rfl := h12
      clear h6
      clear h7
      clear h8
      clear h9
      clear h10
      simp only [Act.put, List.setIfInBounds_toArray, List.set_cons_zero, List.set_cons_succ] at hbf
      subst hbf
      replace B0 := B0.below hb11
      replace k0s := k0s.below hb11
      replace k0 := k0.below hb11
      replace B1 := B1.below hb11
      replace k1s := k1s.below hb11
      replace k1 := k1.below hb11
      replace bb := bb.trans (hb11.mono bb.size)
      have hsz11 := bb.size
      refine ops_done ?_
      go_wp2
      go_ret
      exact ⟨rfl, bb⟩
  · obtain rfl : b = false := by rw [hb, decide_eq_false_iff_not]; have := ngB_true hs0; have := ngB_false hs1; omega
    clear hb
    obtain ⟨u0, rfl, s0⟩ := h0
    obtain ⟨A0, c0, rfl, _⟩ := id s0
    obtain ⟨u1, rfl, s1⟩ := h1
    obtain ⟨A1, c1, rfl, _⟩ := id s1
    go_enter Tryz.func46, Tryz.ntmps46
    go_upto_region 1 with (fail)
    obtain ⟨wx, hwx, bb, B0, B1, hsz⟩ := vars2 w 26 26 #[.bool true, .slice A0 (digs 4294967296 (x).natAbs).length c0] #[.bool false, .slice A1 (digs 4294967296 (y).natAbs).length c1]
    rw [hwx]
    clear hwx
    have k0s := s0.below bb
    have k0 : IsZ wx (.agg #[.bool true, .slice A0 (digs 4294967296 (x).natAbs).length c0]) (x) := isZ_mk k0s rfl hs0.symm
    have k1s := s1.below bb
    have k1 : IsZ wx (.agg #[.bool false, .slice A1 (digs 4294967296 (y).natAbs).length c1]) (y) := isZ_mk k1s rfl hs1.symm
    have hsz0 := bb.size
    have sB := bb.size
    refine flowp 13 [Pd.eq (.pointer (some ⟨w.heap.size, 0, none⟩)), Pd.eq (.bool true), Pd.eq (.pointer (some ⟨w.heap.size + 1, 0, none⟩)), Pd.eq (.bool false), Pd.eq (.bool false), Pd.eq (.bool false), Pd.any, Pd.any, Pd.any, Pd.any, Pd.any, Pd.eq (.bool false), Pd.eq (.bool false)] (by kernel_rfl) ?ob22 ?done22
    case ob22 =>
      refine And.intro (ob_fieldAddr rfl (wt_none rfl) (ev_far rfl rfl) (fun _ => by kernel_rfl) (fun _ => rfl)) ?_
      refine And.intro (ob_load rfl (wt_none rfl) (ev_dep (j := 0) (by kernel_rfl) rfl rfl) (fun w2 hb => run_load1 Tryz.underlying4 rfl ((B0.below hb).cell 0)) (fun _ _ => rfl)) ?_
      refine And.intro (ob_fieldAddr rfl (wt_none rfl) (ev_far rfl rfl) (fun _ => by kernel_rfl) (fun _ => rfl)) ?_
      refine And.intro (ob_load rfl (wt_none rfl) (ev_dep (j := 2) (by kernel_rfl) rfl rfl) (fun w2 hb => run_load1 Tryz.underlying4 rfl ((B1.below hb).cell 0)) (fun _ _ => rfl)) ?_
      refine And.intro (ob_bin rfl (wt_none rfl) (ev_dep (j := 1) (by kernel_rfl) rfl rfl) (ev_dep (j := 3) (by kernel_rfl) rfl rfl) (fun _ _ _ hx hy => ⟨.bool (true == false), by rw [hx, hy]; exact bin_eql_bool _ _ _ _ Tryz.underlying4 _, rfl⟩)) ?_
      refine And.intro (ob_move rfl (wt_none rfl) (ev_dep (j := 4) (by kernel_rfl) rfl rfl) (fun _ _ h => h)) ?_
      refine And.intro (ob_not (wt_dep (c := false) (b := true) (g := 5) rfl (by kernel_rfl) rfl rfl rfl (by exact fun _ _ h => h)) (fun _ => trivial) rfl) ?_
      refine And.intro (ob_not (wt_dep (c := false) (b := true) (g := 5) rfl (by kernel_rfl) rfl rfl rfl (by exact fun _ _ h => h)) (fun _ => trivial) rfl) ?_
      refine And.intro (ob_not (wt_dep (c := false) (b := true) (g := 5) rfl (by kernel_rfl) rfl rfl rfl (by exact fun _ _ h => h)) (fun _ => trivial) rfl) ?_
      refine And.intro (ob_not (wt_dep (c := false) (b := true) (g := 5) rfl (by kernel_rfl) rfl rfl rfl (by exact fun _ _ h => h)) (fun _ => trivial) rfl) ?_
      refine And.intro (ob_not (wt_dep (c := false) (b := true) (g := 5) rfl (by kernel_rfl) rfl rfl rfl (by exact fun _ _ h => h)) (fun _ => trivial) rfl) ?_
      refine And.intro (ob_pick (b := false) rfl (wt_none rfl) (ev_dep (j := 5) (by kernel_rfl) rfl rfl) (ev_const _) (fun _ _ h => h)) ?_
      refine And.intro (ob_assign rfl (wt_none rfl) (ev_dep (j := 11) (by kernel_rfl) rfl rfl) (fun _ _ h => h)) ?_
      trivial
    case done22 =>
      refine fun w11 hb11 v0 h0 v1 h1 v2 h2 v3 h3 v4 h4 v5 h5 v6 h6 v7 h7 v8 h8 v9 h9 v10 h10 v11 h11 v12 h12 b hbf => ?_
      obtain rfl := h0; obtain rfl := h1; obtain rfl := h2; obtain rfl := h3; obtain rfl := h4; obtain rfl := h5; obtain rfl := h11; obtain rfl := h12
      clear h6
      clear h7
      clear h8
      clear h9
      clear h10
      simp only [Act.put, List.setIfInBounds_toArray, List.set_cons_zero, List.set_cons_succ] at hbf
      subst hbf
      replace B0 := B0.below hb11
      replace k0s := k0s.below hb11
      replace k0 := k0.below hb11
      replace B1 := B1.below hb11
      replace k1s := k1s.below hb11
      replace k1 := k1.below hb11
      replace bb := bb.trans (hb11.mono bb.size)
      have hsz11 := bb.size
      refine ops_done ?_
      go_wp2
      go_ret
      exact ⟨rfl, bb⟩
  · have HB : Hid (b = decide (x.natAbs = y.natAbs)) := by show _ = _; rw [hb, decide_eq_decide]; have := ngB_true hs0; have := ngB_true hs1; omega
    clear hb
    obtain ⟨u0, rfl, s0⟩ := h0
    obtain ⟨A0, c0, rfl, _⟩ := id s0
    obtain ⟨u1, rfl, s1⟩ := h1
    obtain ⟨A1, c1, rfl, _⟩ := id s1
    go_enter Tryz.func46, Tryz.ntmps46
    go_upto_region 1 with (fail)
    obtain ⟨wx, hwx, bb, B0, B1, hsz⟩ := vars2 w 26 26 #[.bool true, .slice A0 (digs 4294967296 (x).natAbs).length c0] #[.bool true, .slice A1 (digs 4294967296 (y).natAbs).length c1]
    rw [hwx]
    clear hwx
    have k0s := s0.below bb
    have k0 : IsZ wx (.agg #[.bool true, .slice A0 (digs 4294967296 (x).natAbs).length c0]) (x) := isZ_mk k0s rfl hs0.symm
    have k1s := s1.below bb
    have k1 : IsZ wx (.agg #[.bool true, .slice A1 (digs 4294967296 (y).natAbs).length c1]) (y) := isZ_mk k1s rfl hs1.symm
    have hsz0 := bb.size
    have sB := bb.size
    refine flowp 13 [Pd.eq (.pointer (some ⟨w.heap.size, 0, none⟩)), Pd.eq (.bool true), Pd.eq (.pointer (some ⟨w.heap.size + 1, 0, none⟩)), Pd.eq (.bool true), Pd.eq (.bool true), Pd.eq (.bool true), Pd.eq (.pointer (some ⟨w.heap.size, 1, none⟩)), Pd.eq (.slice A0 (digs 4294967296 (x).natAbs).length c0), Pd.eq (.pointer (some ⟨w.heap.size + 1, 1, none⟩)), Pd.eq (.slice A1 (digs 4294967296 (y).natAbs).length c1), Pd.eq (.bool b), Pd.eq (.bool b), Pd.eq (.bool b)] (by kernel_rfl) ?ob23 ?done23
    case ob23 =>
      refine And.intro (ob_fieldAddr rfl (wt_none rfl) (ev_far rfl rfl) (fun _ => by kernel_rfl) (fun _ => rfl)) ?_
      refine And.intro (ob_load rfl (wt_none rfl) (ev_dep (j := 0) (by kernel_rfl) rfl rfl) (fun w2 hb => run_load1 Tryz.underlying4 rfl ((B0.below hb).cell 0)) (fun _ _ => rfl)) ?_
      refine And.intro (ob_fieldAddr rfl (wt_none rfl) (ev_far rfl rfl) (fun _ => by kernel_rfl) (fun _ => rfl)) ?_
      refine And.intro (ob_load rfl (wt_none rfl) (ev_dep (j := 2) (by kernel_rfl) rfl rfl) (fun w2 hb => run_load1 Tryz.underlying4 rfl ((B1.below hb).cell 0)) (fun _ _ => rfl)) ?_
      refine And.intro (ob_bin rfl (wt_none rfl) (ev_dep (j := 1) (by kernel_rfl) rfl rfl) (ev_dep (j := 3) (by kernel_rfl) rfl rfl) (fun _ _ _ hx hy => ⟨.bool (true == true), by rw [hx, hy]; exact bin_eql_bool _ _ _ _ Tryz.underlying4 _, rfl⟩)) ?_
      refine And.intro (ob_move rfl (wt_none rfl) (ev_dep (j := 4) (by kernel_rfl) rfl rfl) (fun _ _ h => h)) ?_
      refine And.intro (ob_fieldAddr rfl (wt_dep (c := true) (b := true) (g := 5) rfl (by kernel_rfl) rfl rfl rfl (by exact fun _ _ h => h)) (ev_far rfl rfl) (fun _ => by kernel_rfl) (fun _ => rfl)) ?_
      refine And.intro (ob_load rfl (wt_dep (c := true) (b := true) (g := 5) rfl (by kernel_rfl) rfl rfl rfl (by exact fun _ _ h => h)) (ev_dep (j := 6) (by kernel_rfl) rfl rfl) (fun w2 hb => run_load1 Tryz.underlying24 rfl ((B0.below hb).cell 1)) (fun _ _ => rfl)) ?_
      refine And.intro (ob_fieldAddr rfl (wt_dep (c := true) (b := true) (g := 5) rfl (by kernel_rfl) rfl rfl rfl (by exact fun _ _ h => h)) (ev_far rfl rfl) (fun _ => by kernel_rfl) (fun _ => rfl)) ?_
      refine And.intro (ob_load rfl (wt_dep (c := true) (b := true) (g := 5) rfl (by kernel_rfl) rfl rfl rfl (by exact fun _ _ h => h)) (ev_dep (j := 8) (by kernel_rfl) rfl rfl) (fun w2 hb => run_load1 Tryz.underlying24 rfl ((B1.below hb).cell 1)) (fun _ _ => rfl)) ?_
      refine And.intro (ob_call2 rfl Tryz.func47 (by kernel_rfl) (wt_dep (c := true) (b := true) (g := 5) rfl (by kernel_rfl) rfl rfl rfl (by exact fun _ _ h => h)) (ev_dep (j := 7) (by kernel_rfl) rfl rfl) (ev_dep (j := 9) (by kernel_rfl) rfl rfl) (fun w2 u0 u1 hb h0 h1 => by obtain rfl := h0; obtain rfl := h1; exact (same_num _ _ x.natAbs y.natAbs b _ (k0s.below hb) (k1s.below hb) HB.out).mono fun e w3 h => RetV.pd h)) ?_
      refine And.intro (ob_pick (b := true) rfl (wt_none rfl) (ev_dep (j := 5) (by kernel_rfl) rfl rfl) (ev_dep (j := 10) (by kernel_rfl) rfl rfl) (fun _ _ h => h)) ?_
      refine And.intro (ob_assign rfl (wt_none rfl) (ev_dep (j := 11) (by kernel_rfl) rfl rfl) (fun _ _ h => h)) ?_
      trivial
    case done23 =>
      refine fun w11 hb11 v0 h0 v1 h1 v2 h2 v3 h3 v4 h4 v5 h5 v6 h6 v7 h7 v8 h8 v9 h9 v10 h10 v11 h11 v12 h12 b hbf => ?_
      obtain rfl := h0; obtain rfl := h1; obtain rfl := h2; obtain rfl := h3; obtain rfl := h4; obtain rfl := h5; obtain rfl := h6; obtain rfl := h7; obtain rfl := h8; obtain rfl := h9; obtain rfl := h10; obtain rfl := h11; obtain rfl := h12
      simp only [Act.put, List.setIfInBounds_toArray, List.set_cons_zero, List.set_cons_succ] at hbf
      subst hbf
      replace B0 := B0.below hb11
      replace k0s := k0s.below hb11
      replace k0 := k0.below hb11
      replace B1 := B1.below hb11
      replace k1s := k1s.below hb11
      replace k1 := k1.below hb11
      replace bb := bb.trans (hb11.mono bb.size)
      have hsz11 := bb.size
      refine ops_done ?_
      go_wp2
      go_ret
      exact ⟨rfl, bb⟩
set_option maxHeartbeats 1600000 in
set_option maxRecDepth 100000 in
theorem qsame_any (a0 a1 : Value) (x y : Rat) (b : Bool) (w : World) (h0 : IsQ w a0 x) (h1 : IsQ w a1 y) (hb : b = decide (x = y)) :
    Calls Tryz.prog 22 #[a0, a1] w (RetV (.bool b) w) := by
  by_cases hn : x.num = y.num
  · have HB : Hid (b = decide (x.den = y.den)) := by show _ = _; rw [hb, decide_eq_decide]; exact ⟨fun e => by rw [e], fun e => Rat.ext hn e⟩
    clear hb
    have HN := Lib.hid hn
    clear hn
    obtain ⟨u0, t0, rfl, s0, r0⟩ := h0
    obtain ⟨A0, c0, rfl, _⟩ := id s0
    obtain ⟨D0, e0, rfl, _⟩ := id r0
    obtain ⟨u1, t1, rfl, s1, r1⟩ := h1
    obtain ⟨A1, c1, rfl, _⟩ := id s1
    obtain ⟨D1, e1, rfl, _⟩ := id r1
    go_enter Tryz.func22, Tryz.ntmps22
    go_upto_region 1 with (fail)
    obtain ⟨wx, hwx, bb, B0, B1, hsz⟩ := vars2 w 28 28 #[.bool (ngB (x).num), .slice A0 (digs 4294967296 (x).num.natAbs).length c0, .slice D0 (digs 4294967296 (x).den).length e0] #[.bool (ngB (y).num), .slice A1 (digs 4294967296 (y).num.natAbs).length c1, .slice D1 (digs 4294967296 (y).den).length e1]
    rw [hwx]
    clear hwx
    have k0s := s0.below bb
    have k0d := r0.below bb
    have k0z : IsZ wx (.agg #[.bool (ngB (x).num), .slice A0 (digs 4294967296 (x).num.natAbs).length c0]) (x).num := ⟨_, rfl, k0s⟩
    have k0 : IsQ wx (.agg #[.bool (ngB (x).num), .slice A0 (digs 4294967296 (x).num.natAbs).length c0, .slice D0 (digs 4294967296 (x).den).length e0]) (x) := ⟨_, _, rfl, k0s, k0d⟩
    have k1s := s1.below bb
    have k1d := r1.below bb
    have k1z : IsZ wx (.agg #[.bool (ngB (y).num), .slice A1 (digs 4294967296 (y).num.natAbs).length c1]) (y).num := ⟨_, rfl, k1s⟩
    have k1 : IsQ wx (.agg #[.bool (ngB (y).num), .slice A1 (digs 4294967296 (y).num.natAbs).length c1, .slice D1 (digs 4294967296 (y).den).length e1]) (y) := ⟨_, _, rfl, k1s, k1d⟩
    have hsz0 := bb.size
    have sB := bb.size
    refine flowp 13 [Pd.eq (.pointer (some ⟨w.heap.size, 0, none⟩)), Pd.eq (.agg #[.bool (ngB (x).num), .slice A0 (digs 4294967296 (x).num.natAbs).length c0]), Pd.eq (.pointer (some ⟨w.heap.size + 1, 0, none⟩)), Pd.eq (.agg #[.bool (ngB (y).num), .slice A1 (digs 4294967296 (y).num.natAbs).length c1]), Pd.eq (.bool true), Pd.eq (.bool true), Pd.eq (.pointer (some ⟨w.heap.size, 2, none⟩)), Pd.eq (.slice D0 (digs 4294967296 (x).den).length e0), Pd.eq (.pointer (some ⟨w.heap.size + 1, 2, none⟩)), Pd.eq (.slice D1 (digs 4294967296 (y).den).length e1), Pd.eq (.bool b), Pd.eq (.bool b), Pd.eq (.bool b)] (by kernel_rfl) ?ob24 ?done24
    case ob24 =>
      refine And.intro (ob_fieldAddr rfl (wt_none rfl) (ev_far rfl rfl) (fun _ => by kernel_rfl) (fun _ => rfl)) ?_
      refine And.intro (ob_load rfl (wt_none rfl) (ev_dep (j := 0) (by kernel_rfl) rfl rfl) (fun w2 hb => run_loadPart Tryz.underlying26 rfl (by kernel_rfl) (B0.below hb) rfl) (fun _ _ => rfl)) ?_
      refine And.intro (ob_fieldAddr rfl (wt_none rfl) (ev_far rfl rfl) (fun _ => by kernel_rfl) (fun _ => rfl)) ?_
      refine And.intro (ob_load rfl (wt_none rfl) (ev_dep (j := 2) (by kernel_rfl) rfl rfl) (fun w2 hb => run_loadPart Tryz.underlying26 rfl (by kernel_rfl) (B1.below hb) rfl) (fun _ _ => rfl)) ?_
      refine And.intro (ob_call2 rfl Tryz.func46 (by kernel_rfl) (wt_none rfl) (ev_dep (j := 1) (by kernel_rfl) rfl rfl) (ev_dep (j := 3) (by kernel_rfl) rfl rfl) (fun w2 u0 u1 hb h0 h1 => by obtain rfl := h0; obtain rfl := h1; exact (zsame_any _ x.num _ y.num true _ (k0z.below hb) (k1z.below hb) (decide_eq_true HN.out).symm).mono fun e w3 h => RetV.pd h)) ?_
      refine And.intro (ob_move rfl (wt_none rfl) (ev_dep (j := 4) (by kernel_rfl) rfl rfl) (fun _ _ h => h)) ?_
      refine And.intro (ob_fieldAddr rfl (wt_dep (c := true) (b := true) (g := 5) rfl (by kernel_rfl) rfl rfl rfl (by exact fun _ _ h => h)) (ev_far rfl rfl) (fun _ => by kernel_rfl) (fun _ => rfl)) ?_
      refine And.intro (ob_load rfl (wt_dep (c := true) (b := true) (g := 5) rfl (by kernel_rfl) rfl rfl rfl (by exact fun _ _ h => h)) (ev_dep (j := 6) (by kernel_rfl) rfl rfl) (fun w2 hb => run_load1 Tryz.underlying24 rfl ((B0.below hb).cell 2)) (fun _ _ => rfl)) ?_
      refine And.intro (ob_fieldAddr rfl (wt_dep (c := true) (b := true) (g := 5) rfl (by kernel_rfl) rfl rfl rfl (by exact fun _ _ h => h)) (ev_far rfl rfl) (fun _ => by kernel_rfl) (fun _ => rfl)) ?_
      refine And.intro (ob_load rfl (wt_dep (c := true) (b := true) (g := 5) rfl (by kernel_rfl) rfl rfl rfl (by exact fun _ _ h => h)) (ev_dep (j := 8) (by kernel_rfl) rfl rfl) (fun w2 hb => run_load1 Tryz.underlying24 rfl ((B1.below hb).cell 2)) (fun _ _ => rfl)) ?_
      refine And.intro (ob_call2 rfl Tryz.func47 (by kernel_rfl) (wt_dep (c := true) (b := true) (g := 5) rfl (by kernel_rfl) rfl rfl rfl (by exact fun _ _ h => h)) (ev_dep (j := 7) (by kernel_rfl) rfl rfl) (ev_dep (j := 9) (by kernel_rfl) rfl rfl) (fun w2 u0 u1 hb h0 h1 => by obtain rfl := h0; obtain rfl := h1; exact (same_num _ _ x.den y.den b _ (k0d.below hb) (k1d.below hb) HB.out).mono fun e w3 h => RetV.pd h)) ?_
      refine And.intro (ob_pick (b := true) rfl (wt_none rfl) (ev_dep (j := 5) (by kernel_rfl) rfl rfl) (ev_dep (j := 10) (by kernel_rfl) rfl rfl) (fun _ _ h => h)) ?_
      refine And.intro (ob_assign rfl (wt_none rfl) (ev_dep (j := 11) (by kernel_rfl) rfl rfl) (fun _ _ h => h)) ?_
      trivial
    case done24 =>
      refine fun w11 hb11 v0 h0 v1 h1 v2 h2 v3 h3 v4 h4 v5 h5 v6 h6 v7 h7 v8 h8 v9 h9 v10 h10 v11 h11 v12 h12 b hbf => ?_
      obtain rfl := h0; obtain rfl := h1; obtain rfl := h2; obtain rfl := h3; obtain rfl := h4; obtain rfl := h5; obtain rfl := h6; obtain rfl := h7; obtain rfl := h8; obtain rfl := h9; obtain rfl := h10; obtain rfl := h11; obtain rfl := h12
      simp only [Act.put, List.setIfInBounds_toArray, List.set_cons_zero, List.set_cons_succ] at hbf
      subst hbf
      replace B0 := B0.below hb11
      replace k0s := k0s.below hb11
      replace k0d := k0d.below hb11
      replace k0z := k0z.below hb11
      replace k0 := k0.below hb11
      replace B1 := B1.below hb11
      replace k1s := k1s.below hb11
      replace k1d := k1d.below hb11
      replace k1z := k1z.below hb11
      replace k1 := k1.below hb11
      replace bb := bb.trans (hb11.mono bb.size)
      have hsz11 := bb.size
      refine ops_done ?_
      go_wp2
      go_ret
      exact ⟨rfl, bb⟩
  · obtain rfl : b = false := by rw [hb, decide_eq_false_iff_not]; exact fun e => hn (by rw [e])
    clear hb
    have HN := Lib.hid hn
    clear hn
    obtain ⟨u0, t0, rfl, s0, r0⟩ := h0
    obtain ⟨A0, c0, rfl, _⟩ := id s0
    obtain ⟨D0, e0, rfl, _⟩ := id r0
    obtain ⟨u1, t1, rfl, s1, r1⟩ := h1
    obtain ⟨A1, c1, rfl, _⟩ := id s1
    obtain ⟨D1, e1, rfl, _⟩ := id r1
    go_enter Tryz.func22, Tryz.ntmps22
    go_upto_region 1 with (fail)
    obtain ⟨wx, hwx, bb, B0, B1, hsz⟩ := vars2 w 28 28 #[.bool (ngB (x).num), .slice A0 (digs 4294967296 (x).num.natAbs).length c0, .slice D0 (digs 4294967296 (x).den).length e0] #[.bool (ngB (y).num), .slice A1 (digs 4294967296 (y).num.natAbs).length c1, .slice D1 (digs 4294967296 (y).den).length e1]
    rw [hwx]
    clear hwx
    have k0s := s0.below bb
    have k0d := r0.below bb
    have k0z : IsZ wx (.agg #[.bool (ngB (x).num), .slice A0 (digs 4294967296 (x).num.natAbs).length c0]) (x).num := ⟨_, rfl, k0s⟩
    have k0 : IsQ wx (.agg #[.bool (ngB (x).num), .slice A0 (digs 4294967296 (x).num.natAbs).length c0, .slice D0 (digs 4294967296 (x).den).length e0]) (x) := ⟨_, _, rfl, k0s, k0d⟩
    have k1s := s1.below bb
    have k1d := r1.below bb
    have k1z : IsZ wx (.agg #[.bool (ngB (y).num), .slice A1 (digs 4294967296 (y).num.natAbs).length c1]) (y).num := ⟨_, rfl, k1s⟩
    have k1 : IsQ wx (.agg #[.bool (ngB (y).num), .slice A1 (digs 4294967296 (y).num.natAbs).length c1, .slice D1 (digs 4294967296 (y).den).length e1]) (y) := ⟨_, _, rfl, k1s, k1d⟩
    have hsz0 := bb.size
    have sB := bb.size
    refine flowp 13 [Pd.eq (.pointer (some ⟨w.heap.size, 0, none⟩)), Pd.eq (.agg #[.bool (ngB (x).num), .slice A0 (digs 4294967296 (x).num.natAbs).length c0]), Pd.eq (.pointer (some ⟨w.heap.size + 1, 0, none⟩)), Pd.eq (.agg #[.bool (ngB (y).num), .slice A1 (digs 4294967296 (y).num.natAbs).length c1]), Pd.eq (.bool false), Pd.eq (.bool false), Pd.any, Pd.any, Pd.any, Pd.any, Pd.any, Pd.eq (.bool false), Pd.eq (.bool false)] (by kernel_rfl) ?ob25 ?done25
    case ob25 =>
      refine And.intro (ob_fieldAddr rfl (wt_none rfl) (ev_far rfl rfl) (fun _ => by kernel_rfl) (fun _ => rfl)) ?_
      refine And.intro (ob_load rfl (wt_none rfl) (ev_dep (j := 0) (by kernel_rfl) rfl rfl) (fun w2 hb => run_loadPart Tryz.underlying26 rfl (by kernel_rfl) (B0.below hb) rfl) (fun _ _ => rfl)) ?_
      refine And.intro (ob_fieldAddr rfl (wt_none rfl) (ev_far rfl rfl) (fun _ => by kernel_rfl) (fun _ => rfl)) ?_
      refine And.intro (ob_load rfl (wt_none rfl) (ev_dep (j := 2) (by kernel_rfl) rfl rfl) (fun w2 hb => run_loadPart Tryz.underlying26 rfl (by kernel_rfl) (B1.below hb) rfl) (fun _ _ => rfl)) ?_
      refine And.intro (ob_call2 rfl Tryz.func46 (by kernel_rfl) (wt_none rfl) (ev_dep (j := 1) (by kernel_rfl) rfl rfl) (ev_dep (j := 3) (by kernel_rfl) rfl rfl) (fun w2 u0 u1 hb h0 h1 => by obtain rfl := h0; obtain rfl := h1; exact (zsame_any _ x.num _ y.num false _ (k0z.below hb) (k1z.below hb) (decide_eq_false HN.out).symm).mono fun e w3 h => RetV.pd h)) ?_
      refine And.intro (ob_move rfl (wt_none rfl) (ev_dep (j := 4) (by kernel_rfl) rfl rfl) (fun _ _ h => h)) ?_
      refine And.intro (ob_not (wt_dep (c := false) (b := true) (g := 5) rfl (by kernel_rfl) rfl rfl rfl (by exact fun _ _ h => h)) (fun _ => trivial) rfl) ?_
      refine And.intro (ob_not (wt_dep (c := false) (b := true) (g := 5) rfl (by kernel_rfl) rfl rfl rfl (by exact fun _ _ h => h)) (fun _ => trivial) rfl) ?_
      refine And.intro (ob_not (wt_dep (c := false) (b := true) (g := 5) rfl (by kernel_rfl) rfl rfl rfl (by exact fun _ _ h => h)) (fun _ => trivial) rfl) ?_
      refine And.intro (ob_not (wt_dep (c := false) (b := true) (g := 5) rfl (by kernel_rfl) rfl rfl rfl (by exact fun _ _ h => h)) (fun _ => trivial) rfl) ?_
      refine And.intro (ob_not (wt_dep (c := false) (b := true) (g := 5) rfl (by kernel_rfl) rfl rfl rfl (by exact fun _ _ h => h)) (fun _ => trivial) rfl) ?_
      refine And.intro (ob_pick (b := false) rfl (wt_none rfl) (ev_dep (j := 5) (by kernel_rfl) rfl rfl) (ev_const _) (fun _ _ h => h)) ?_
      refine And.intro (ob_assign rfl (wt_none rfl) (ev_dep (j := 11) (by kernel_rfl) rfl rfl) (fun _ _ h => h)) ?_
      trivial
    case done25 =>
      refine fun w11 hb11 v0 h0 v1 h1 v2 h2 v3 h3 v4 h4 v5 h5 v6 h6 v7 h7 v8 h8 v9 h9 v10 h10 v11 h11 v12 h12 b hbf => ?_
      obtain rfl := h0; obtain rfl := h1; obtain rfl := h2; obtain rfl := h3; obtain rfl := h4; obtain rfl := h5; obtain rfl := h11; obtain rfl := h12
      clear h6
      clear h7
      clear h8
      clear h9
      clear h10
      simp only [Act.put, List.setIfInBounds_toArray, List.set_cons_zero, List.set_cons_succ] at hbf
      subst hbf
      replace B0 := B0.below hb11
      replace k0s := k0s.below hb11
      replace k0d := k0d.below hb11
      replace k0z := k0z.below hb11
      replace k0 := k0.below hb11
      replace B1 := B1.below hb11
      replace k1s := k1s.below hb11
      replace k1d := k1d.below hb11
      replace k1z := k1z.below hb11
      replace k1 := k1.below hb11
      replace bb := bb.trans (hb11.mono bb.size)
      have hsz11 := bb.size
      refine ops_done ?_
      go_wp2
      go_ret
      exact ⟨rfl, bb⟩
/-- The fraction that Clean makes of any. -/
def lowD (d : Nat) : Nat := if d = 0 then 1 else d
theorem lowD_pos (d : Nat) : lowD d ≠ 0 := by unfold lowD; split <;> omega
theorem lowD_len {d m : Nat} (h : (digs 4294967296 d).length ≤ m) (hm : 1 ≤ m) : (digs 4294967296 (lowD d)).length ≤ m := by
  unfold lowD
  split
  · exact Nat.le_trans (digs_len_le (k := 1) (by omega) (by omega)) hm
  · exact h
def cleanQ (b : Bool) (l m : List Nat) (most : Nat) : Rat := mkRat (cleanZ b l most) (lowD (cleaned m most))
theorem cleanQ_len (b : Bool) (l m : List Nat) {most : Nat} (hm : 1 ≤ most) : lenQ (cleanQ b l m most) most := lenQ_mk (lowD_pos _) (cleanZ_len _ _ _) (lowD_len (cleaned_len _ _) hm)
set_option maxHeartbeats 6400000 in
set_option maxRecDepth 100000 in
theorem qclean_any (b : Bool) (v u : Value) (l m : List Nat) (mI : Int) (most : Nat) (w : World) (hmI : mI = (most : Int)) (h0 : IsS w .u64 v l) (u0 : Lt 18446744073709551616 l) (h1 : IsS w .u64 u m) (u1 : Lt 18446744073709551616 m) (hmost : most ≤ 1000) (hm1 : 1 ≤ most) :
    Calls Tryz.prog 6 #[.agg #[.bool b, v, u], .int .i64 mI] w (RetQ (cleanQ b l m most) w) := by
  obtain ⟨A0, c0, rfl, _⟩ := id h0
  obtain ⟨D0, e0, rfl, _⟩ := id h1
  have HM := Lib.hid hmI
  clear hmI
  obtain ⟨y, hy⟩ : ∃ y, y = cleaned m most := ⟨_, rfl⟩
  have my : (digs 4294967296 y).length ≤ most := by rw [hy]; exact cleaned_len _ _
  have HY := Lib.hid hy.symm
  obtain ⟨x, hx⟩ : ∃ x, x = cleanZ b l most := ⟨_, rfl⟩
  have lx : lenZ x ≤ most := by rw [hx]; exact cleanZ_len _ _ _
  have HX := Lib.hid hx.symm
  have HQ : Hid (cleanQ b l m most = mkRat x (lowD y)) := by show _ = _; unfold cleanQ; rw [hx, hy]
  clear hx hy
  go_enter Tryz.func6, Tryz.ntmps6
  go_upto_region 1 with (fail)
  obtain ⟨wx, hwx, bb, B0, B1, hsz⟩ := vars2 w 28 28 #[.bool b, .slice A0 l.length c0, .slice D0 m.length e0] #[.bool false, .slice none 0 0, .slice none 0 0]
  rw [hwx]
  clear hwx
  have k0s := h0.below bb
  have k0d := h1.below bb
  obtain ⟨x00, x01, x02, _, _, _⟩ := three B0
  have hs0 := bb.size
  go_wp2_with fail
  refine (HY.out ▸ clean_any _ m _ most _ HM.out k0d u1 (Nat.le_trans hmost (by decide))).mono ?_
  rintro e w1 ⟨v1, rfl, k1, f1, b1⟩
  obtain ⟨A1, c1, rfl, _⟩ := id k1
  replace B0 := B0.below b1
  replace B1 := B1.below b1
  replace k0s := k0s.below b1
  replace bb := bb.trans (b1.mono bb.size)
  have hs1 := bb.size
  clear x00 x01 x02 k0d
  have HL1 : Hid (lenZ x ≤ 30000) := Nat.le_trans lx (by omega)
  have HL2 : Hid ((digs 4294967296 (lowD y)).length ≤ 30000) := Nat.le_trans (lowD_len my (by omega)) (by omega)
  have HLQ : Hid (lenQ (mkRat x (lowD y)) 30000) := lenQ_mk (lowD_pos y) HL1.out HL2.out
  by_cases hy0 : y = 0
  · have HZ : Hid ((digs 4294967296 y).length = 0) := by show _ = _; rw [hy0, digs_zero]; rfl
    have HO : Hid (digs 4294967296 (lowD y) = [1]) := by show _ = _; rw [hy0]; exact digs_one 1 (by omega) (by omega)
    have hz0 : (digs 4294967296 y).length = 0 := HZ.out
    clear hy0
    have bA := below_alloc (Nat.le_refl w1.heap.size) (.cells #[.int .u64 1] 63)
    have k1o := (own_lit1 w1 w1.heap.size 63 .u64 (show (1 : Int) = ((1 : Nat) : Int) from rfl) (Nat.le_refl _)).isS
    rw [← HO.out] at k1o
    replace k0s := k0s.below bA
    obtain ⟨x10, x11, x12, _, _, _⟩ := three (B0.below bA)
    replace B1 := B1.below bA
    replace bb := bb.trans (bA.mono bb.size)
    have hs2 := bb.size
    clear k1 f1
    go_wp2_with fail
    refine (HX.out ▸ zclean_any b _ l _ most _ HM.out k0s u0 (Nat.le_trans hmost (by decide))).mono ?_
    rintro e w2 ⟨v2, rfl, k2, f2, b2⟩
    replace B1 := B1.below b2
    replace k1o := k1o.below b2
    replace bb := bb.trans (b2.mono bb.size)
    have hs3 := bb.size
    go_wp2_with fail
    refine (rof_any _ x _ k2 HL1.out).mono ?_
    rintro e w3 ⟨v3, rfl, k3, b3⟩
    replace B1 := B1.below b3
    replace k1o := k1o.below b3
    replace bb := bb.trans (b3.mono bb.size)
    have hs4 := bb.size
    go_wp2_with fail
    refine (refOf_any _ (lowD y) _ k1o (Nat.le_trans HL2.out (by decide))).mono ?_
    rintro e w4 ⟨v4, rfl, k4, f4, b4⟩
    replace B1 := B1.below b4
    replace k3 := k3.below b4
    replace bb := bb.trans (b4.mono bb.size)
    have hs5 := bb.size
    go_wp2_with fail
    refine (rlow_any _ x _ (lowD y) _ k3 k4 (lowD_pos y) HL1.out HL2.out).mono ?_
    rintro e w5 ⟨v5, rfl, k5, f5, b5⟩
    replace B1 := B1.below b5
    replace bb := bb.trans (b5.mono bb.size)
    have hs6 := bb.size
    have hg5 := B1.lt
    go_wp2_with fail
    refine (qback_any _ _ _ k5 HLQ.out).mono ?_
    rintro e w6 ⟨v6, rfl, ⟨u6, t6, rfl, k6, d6⟩, f6, b6⟩
    obtain ⟨A6, c6, rfl, _⟩ := id k6
    obtain ⟨D6, e6, rfl, _⟩ := id d6
    replace B1 := B1.below b6
    replace bb := bb.trans (b6.mono bb.size)
    obtain ⟨y0, y1, y2, z0, z1, z2⟩ := three B1
    go_wp2
    exact bodyPost_ret (v := .agg #[.bool (ngB (mkRat x (lowD y)).num), .slice A6 (digs 4294967296 (mkRat x (lowD y)).num.natAbs).length c6, .slice D6 (digs 4294967296 (mkRat x (lowD y)).den).length e6]) (by simp [results, Tryz.results6, go_sem, y0, y1, y2]) rfl (by rw [HQ.out]; exact endQ bb (by omega) hg5 k6 d6 f6)
  · have HZ : 0 < (digs 4294967296 y).length := len_pos (by omega)
    have HO : Hid (lowD y = y) := if_neg hy0
    clear hy0
    obtain ⟨x10, x11, x12, _, _, _⟩ := three B0
    have k1o : IsS w1 .u64 (.slice A1 (digs 4294967296 y).length c1) (digs 4294967296 (lowD y)) := by rw [HO.out]; exact k1
    go_wp2_with fail
    refine (HX.out ▸ zclean_any b _ l _ most _ HM.out k0s u0 (Nat.le_trans hmost (by decide))).mono ?_
    rintro e w2 ⟨v2, rfl, k2, f2, b2⟩
    replace B1 := B1.below b2
    replace k1o := k1o.below b2
    replace bb := bb.trans (b2.mono bb.size)
    have hs3 := bb.size
    go_wp2_with fail
    refine (rof_any _ x _ k2 HL1.out).mono ?_
    rintro e w3 ⟨v3, rfl, k3, b3⟩
    replace B1 := B1.below b3
    replace k1o := k1o.below b3
    replace bb := bb.trans (b3.mono bb.size)
    have hs4 := bb.size
    go_wp2_with fail
    refine (refOf_any _ (lowD y) _ k1o (Nat.le_trans HL2.out (by decide))).mono ?_
    rintro e w4 ⟨v4, rfl, k4, f4, b4⟩
    replace B1 := B1.below b4
    replace k3 := k3.below b4
    replace bb := bb.trans (b4.mono bb.size)
    have hs5 := bb.size
    go_wp2_with fail
    refine (rlow_any _ x _ (lowD y) _ k3 k4 (lowD_pos y) HL1.out HL2.out).mono ?_
    rintro e w5 ⟨v5, rfl, k5, f5, b5⟩
    replace B1 := B1.below b5
    replace bb := bb.trans (b5.mono bb.size)
    have hs6 := bb.size
    have hg5 := B1.lt
    go_wp2_with fail
    refine (qback_any _ _ _ k5 HLQ.out).mono ?_
    rintro e w6 ⟨v6, rfl, ⟨u6, t6, rfl, k6, d6⟩, f6, b6⟩
    obtain ⟨A6, c6, rfl, _⟩ := id k6
    obtain ⟨D6, e6, rfl, _⟩ := id d6
    replace B1 := B1.below b6
    replace bb := bb.trans (b6.mono bb.size)
    obtain ⟨y0, y1, y2, z0, z1, z2⟩ := three B1
    go_wp2
    exact bodyPost_ret (v := .agg #[.bool (ngB (mkRat x (lowD y)).num), .slice A6 (digs 4294967296 (mkRat x (lowD y)).num.natAbs).length c6, .slice D6 (digs 4294967296 (mkRat x (lowD y)).den).length e6]) (by simp [results, Tryz.results6, go_sem, y0, y1, y2]) rfl (by rw [HQ.out]; exact endQ bb (by omega) hg5 k6 d6 f6)
theorem qsame_eq (a0 a1 : Value) (x y : Rat) (w : World) (h0 : IsQ w a0 x) (h1 : IsQ w a1 y) (e : x = y) : Calls Tryz.prog 22 #[a0, a1] w (RetV (.bool true) w) := by subst e; exact qsame_one a0 a1 x w h0 h1
end Go.Proofs.YtodpjmbclmlieaaGreat.rat
namespace Go.Proofs.YtodpjmbclmlieaaGreat.whl
open Go.RowKit Go.Proofs.YtodpjmbclmlieaaGreat.num Go.Proofs.YtodpjmbclmlieaaGreat.mem Go.Proofs.YtodpjmbclmlieaaGreat.nat Go.Proofs.YtodpjmbclmlieaaGreat.txt Go.Proofs.YtodpjmbclmlieaaGreat.str Go.Proofs.YtodpjmbclmlieaaGreat.flow
set_option linter.unusedVariables false
def prf (z : Int) (B : Nat) : Pd := ⟨fun w v => IsR w v z ∧ FreshZ B v, fun h hb => ⟨h.1.below hb, h.2⟩⟩
/-- The call's answer is this whole number, in new memory. -/
def RetRF (z : Int) (w : World) (e : Ending) (w' : World) : Prop := ∃ v, e = .returned v ∧ IsR w' v z ∧ FreshZ w.heap.size v ∧ Below w.heap.size w w'
theorem RetRF.pd {z : Int} {w : World} {e : Ending} {w' : World} {B : Nat} (h : RetRF z w e w') (hB : B ≤ w.heap.size) : RetPd (prf z B) w e w' := by
  obtain ⟨v, h1, h2, h3, h4⟩ := h
  exact ⟨v, h1, ⟨h2, h3.mono hB⟩, h4⟩
theorem made_pdf (b : Bool) (u : Value) (x : Nat) (z : Int) (w : World) {B : Nat} (h : IsS w .i64 u (digs 10000 x)) (hf : Fresh B u) (hz : sg b x = z) : Calls Tryz.prog 53 #[.bool b, u] w (RetPd (prf z B) w) :=
  (rmade_any b u x w h).mono fun e w' h' => ⟨_, h'.1, ⟨isR_mk (h.below h'.2) (by rw [← hz, sg_abs]) (by rw [hz]), freshZ_mk hf⟩, h'.2⟩
end Go.Proofs.YtodpjmbclmlieaaGreat.whl
namespace Go.Proofs.YtodpjmbclmlieaaGreat.rat
open Go.RowKit Go.Proofs.YtodpjmbclmlieaaGreat.num Go.Proofs.YtodpjmbclmlieaaGreat.mem Go.Proofs.YtodpjmbclmlieaaGreat.nat Go.Proofs.YtodpjmbclmlieaaGreat.txt Go.Proofs.YtodpjmbclmlieaaGreat.str Go.Proofs.YtodpjmbclmlieaaGreat.flow Go.Proofs.YtodpjmbclmlieaaGreat.whl
set_option linter.unusedVariables false
set_option maxHeartbeats 1600000 in
set_option maxRecDepth 100000 in
theorem roff_any (a0 : Value) (x : Int) (w : World) (h0 : IsZ w a0 x) (hl : lenZ x ≤ 30000) :
    Calls Tryz.prog 27 #[a0] w (RetRF x w) := by
  obtain ⟨u0, rfl, s0⟩ := h0
  obtain ⟨A0, c0, rfl, _⟩ := id s0
  have HL : Hid ((digs 4294967296 x.natAbs).length ≤ 100000) := by show _ ≤ _; unfold lenZ at hl; omega
  have HZ : Hid (sg (ngB x) x.natAbs = x) := by show _ = _; exact sg_self x
  go_enter Tryz.func27, Tryz.ntmps27
  go_upto_region 1 with (fail)
  obtain ⟨wx, hwx, bb, B0, B1, hsz⟩ := vars2 w 26 43 #[.bool (ngB x), .slice A0 (digs 4294967296 (x).natAbs).length c0] #[.bool false, .slice none 0 0]
  rw [hwx]
  clear hwx
  have k0s := s0.below bb
  have k0 : IsZ wx (.agg #[.bool (ngB x), .slice A0 (digs 4294967296 (x).natAbs).length c0]) (x) := isZ_mk k0s rfl rfl
  have hszb := bb.size
  refine flow 6 [Pd.eq (.pointer (some ⟨w.heap.size, 0, none⟩)), Pd.eq (.bool (ngB x)), Pd.eq (.pointer (some ⟨w.heap.size, 1, none⟩)), Pd.eq (.slice A0 (digs 4294967296 (x).natAbs).length c0), ps .i64 (digs 10000 x.natAbs) wx.heap.size, prf (x) wx.heap.size] (by kernel_rfl) (by kernel_rfl) ?ob1 ?done1
  case ob1 =>
    refine And.intro (ob_fieldAddr rfl (wt_none rfl) (ev_far rfl rfl) (fun _ => by kernel_rfl) (fun _ => rfl)) ?_
    refine And.intro (ob_load rfl (wt_none rfl) (ev_dep (j := 0) (by kernel_rfl) rfl rfl) (fun w2 hb => run_load1 Tryz.underlying4 rfl ((B0.drew.below hb).cell 0)) (fun _ _ => rfl)) ?_
    refine And.intro (ob_fieldAddr rfl (wt_none rfl) (ev_far rfl rfl) (fun _ => by kernel_rfl) (fun _ => rfl)) ?_
    refine And.intro (ob_load rfl (wt_none rfl) (ev_dep (j := 2) (by kernel_rfl) rfl rfl) (fun w2 hb => run_load1 Tryz.underlying24 rfl ((B0.drew.below hb).cell 1)) (fun _ _ => rfl)) ?_
    refine And.intro (ob_call1 rfl Tryz.func29 (by kernel_rfl) (wt_none rfl) (ev_dep (j := 3) (by kernel_rfl) rfl rfl) (fun w2 u0 hb h0 => by obtain rfl := h0; exact (refOf_any _ _ _ (k0s.drew.below hb) HL.out).mono fun e w3 h => RetS.pd h hb.size)) ?_
    refine And.intro (ob_call2 rfl Tryz.func53 (by kernel_rfl) (wt_none rfl) (ev_dep (j := 1) (by kernel_rfl) rfl rfl) (ev_dep (j := 4) (by kernel_rfl) rfl rfl) (fun w2 u0 u1 hb h0 h1 => by obtain rfl := h0; exact made_pdf _ _ _ (x) _ h1.1 h1.2 HZ.out)) ?_
    trivial
  case done1 =>
    refine fun w1 hb1 v0 h0 v1 h1 v2 h2 v3 h3 v4 h4 v5 h5 b hbf => ?_
    obtain rfl := h0; obtain rfl := h1; obtain rfl := h2; obtain rfl := h3
    obtain ⟨q4, f4⟩ := h4
    obtain ⟨q5, f5⟩ := h5
    simp only [Act.put, List.setIfInBounds_toArray, List.set_cons_zero, List.set_cons_succ] at hbf
    subst hbf
    obtain ⟨u5, rfl, q5⟩ := q5
    obtain ⟨A9, c9, rfl, _⟩ := id q5
    have B9 := B1.below hb1
    refine any_store (i := 6) (by kernel_rfl) rfl rfl rfl rfl rfl rfl (cells := [.bool (ngB (x)), .slice A9 (digs 10000 (x).natAbs).length c9]) rfl B9 rfl (by kernel_rfl) (one2 rfl rfl) fun w9 hg9 BB9 => ?_
    have k9 := off q5 B9 no_ints2 hg9
    have f9 := (f5 _ _ rfl).mono (show w.heap.size ≤ wx.heap.size from bb.size)
    have bb9 := ((bb.trans (hb1.mono bb.size)).trans ((Below.refl _ _).grown hg9 (Nat.le_trans bb.size hb1.size) (fun g hg => by injection hg with hg; omega)))
    obtain ⟨c0, c1, _, _⟩ := Blk.two BB9
    refine any_done (by kernel_rfl) ?_
    go_wp2
    exact bodyPost_ret (v := .agg #[.bool (ngB (x)), .slice A9 (digs 10000 (x).natAbs).length c9]) (by simp [results, Tryz.results27, go_sem, c0, c1]) rfl ⟨_, rfl, isR_mk k9 rfl rfl, freshZ_mk f9, bb9⟩
set_option maxHeartbeats 1600000 in
set_option maxRecDepth 100000 in
theorem qoff_any (a0 : Value) (q : Rat) (w : World) (h0 : IsQ w a0 q) (hl : lenQ q 30000) :
    Calls Tryz.prog 12 #[a0] w (RetPF q w) := by
  obtain ⟨u0, t0, rfl, s0, r0⟩ := h0
  obtain ⟨A0, c0, rfl, _⟩ := id s0
  obtain ⟨D0, e0, rfl, _⟩ := id r0
  go_enter Tryz.func12, Tryz.ntmps12
  go_upto_region 1 with (fail)
  obtain ⟨wx, hwx, bb, B0, BR0, hsz⟩ := vars2 w 28 45 #[.bool (ngB (q).num), .slice A0 (digs 4294967296 (q).num.natAbs).length c0, .slice D0 (digs 4294967296 (q).den).length e0] #[.bool false, .slice none 0 0, .slice none 0 0]
  rw [hwx]
  clear hwx
  have k0s := s0.below bb
  have k0d := r0.below bb
  have k0z : IsZ wx (.agg #[.bool (ngB (q).num), .slice A0 (digs 4294967296 (q).num.natAbs).length c0]) (q).num := ⟨_, rfl, k0s⟩
  have k0 : IsQ wx (.agg #[.bool (ngB (q).num), .slice A0 (digs 4294967296 (q).num.natAbs).length c0, .slice D0 (digs 4294967296 (q).den).length e0]) (q) := ⟨_, _, rfl, k0s, k0d⟩
  have hsz0 := bb.size
  have sB := bb.size
  refine flow 7 [Pd.eq (.pointer (some ⟨w.heap.size, 0, none⟩)), Pd.eq (.agg #[.bool (ngB (q).num), .slice A0 (digs 4294967296 (q).num.natAbs).length c0]), prf ((q).num) wx.heap.size, Pd.eq (.pointer (some ⟨w.heap.size, 2, none⟩)), Pd.eq (.slice D0 (digs 4294967296 (q).den).length e0), ps .i64 (digs 10000 (q).den) wx.heap.size, ppf (q) wx.heap.size] (by kernel_rfl) (by kernel_rfl) ?ob2 ?done2
  case ob2 =>
    refine And.intro (ob_fieldAddr rfl (wt_none rfl) (ev_far rfl rfl) (fun _ => by kernel_rfl) (fun _ => rfl)) ?_
    refine And.intro (ob_load rfl (wt_none rfl) (ev_dep (j := 0) (by kernel_rfl) rfl rfl) (fun w2 hb => run_loadPart Tryz.underlying26 rfl (by kernel_rfl) (B0.drew.below hb) rfl) (fun _ _ => rfl)) ?_
    refine And.intro (ob_call1 rfl Tryz.func27 (by kernel_rfl) (wt_none rfl) (ev_dep (j := 1) (by kernel_rfl) rfl rfl) (fun w2 u0 hb h0 => by obtain rfl := h0; exact (roff_any _ _ _ (k0z.drew.below hb) (Nat.le_trans hl.1 (by decide))).mono fun e w3 h => RetRF.pd h hb.size)) ?_
    refine And.intro (ob_fieldAddr rfl (wt_none rfl) (ev_far rfl rfl) (fun _ => by kernel_rfl) (fun _ => rfl)) ?_
    refine And.intro (ob_load rfl (wt_none rfl) (ev_dep (j := 3) (by kernel_rfl) rfl rfl) (fun w2 hb => run_load1 Tryz.underlying24 rfl ((B0.drew.below hb).cell 2)) (fun _ _ => rfl)) ?_
    refine And.intro (ob_call1 rfl Tryz.func29 (by kernel_rfl) (wt_none rfl) (ev_dep (j := 4) (by kernel_rfl) rfl rfl) (fun w2 u0 hb h0 => by obtain rfl := h0; exact (refOf_any _ _ _ (k0d.drew.below hb) (Nat.le_trans hl.2 (by decide))).mono fun e w3 h => RetS.pd h hb.size)) ?_
    refine And.intro (ob_build2b rfl (wt_none rfl) (ev_dep (j := 2) (by kernel_rfl) rfl rfl) (ev_dep (j := 5) (by kernel_rfl) rfl rfl) (fun w2 u v hb hu hv => by obtain ⟨u7, rfl, hu7⟩ := hu.1; obtain ⟨A7, c7, rfl, _⟩ := id hu7; obtain ⟨A8, c8, rfl, _⟩ := id hv.1; exact ⟨.agg #[.bool (ngB (q).num), .slice A7 (digs 10000 (q).num.natAbs).length c7, .slice A8 (digs 10000 (q).den).length c8], by kernel_rfl, ⟨⟨_, _, rfl, hu7, hv.1⟩, freshQ_mk (hu.2 _ _ rfl) hv.2⟩⟩)) ?_
    trivial
  case done2 =>
    refine fun w11 hb11 v0 h0 v1 h1 v2 h2 v3 h3 v4 h4 v5 h5 v6 h6 b hbf => ?_
    obtain rfl := h0; obtain rfl := h1; obtain rfl := h3; obtain rfl := h4
    obtain ⟨q2, f2⟩ := h2
    obtain ⟨q5, f5⟩ := h5
    obtain ⟨q6, f6⟩ := h6
    simp only [Act.put, List.setIfInBounds_toArray, List.set_cons_zero, List.set_cons_succ] at hbf
    subst hbf
    replace B0 := B0.below hb11
    replace k0s := k0s.below hb11
    replace k0d := k0d.below hb11
    replace k0z := k0z.below hb11
    replace k0 := k0.below hb11
    replace BR0 := BR0.below hb11
    replace bb := bb.trans (hb11.mono bb.size)
    have hsz11 := bb.size
    have s_2 := sB
    have s_5 := sB
    have s_6 := sB
    obtain ⟨u6, t6, rfl, q6, d6⟩ := q6
    obtain ⟨A9, c9, rfl, _⟩ := id q6
    obtain ⟨D9, e9, rfl, _⟩ := id d6
    refine any_store (i := 7) (by kernel_rfl) rfl rfl rfl rfl rfl rfl (cells := [.bool (ngB (q).num), .slice A9 (digs 10000 (q).num.natAbs).length c9, .slice D9 (digs 10000 (q).den).length e9]) rfl BR0 rfl (by kernel_rfl) (one3 rfl rfl rfl) fun w9 hg9 B9 => ?_
    have k9 := off q6 BR0 no_ints3 hg9
    have d9 := off d6 BR0 no_ints3 hg9
    have f9 := f6.mono (show w.heap.size ≤ _ from s_6)
    have bb9 := bb.trans ((Below.refl _ _).grown hg9 bb.size (fun g hg => by injection hg with hg; omega))
    obtain ⟨C0, C1, C2, _, _, _⟩ := three B9
    refine any_done (by kernel_rfl) ?_
    go_wp2
    exact bodyPost_ret (v := .agg #[.bool (ngB (q).num), .slice A9 (digs 10000 (q).num.natAbs).length c9, .slice D9 (digs 10000 (q).den).length e9]) (by simp [results, Tryz.results12, go_sem, C0, C1, C2]) rfl ⟨_, rfl, ⟨_, _, rfl, k9, d9⟩, f9, bb9⟩
end Go.Proofs.YtodpjmbclmlieaaGreat.rat
namespace Go.Proofs.YtodpjmbclmlieaaGreat.rat
open Go.RowKit Go.Proofs.YtodpjmbclmlieaaGreat.num Go.Proofs.YtodpjmbclmlieaaGreat.mem Go.Proofs.YtodpjmbclmlieaaGreat.nat Go.Proofs.YtodpjmbclmlieaaGreat.flow
set_option linter.unusedVariables false
theorem IsS.cut {w : World} {k : IntKind} {A : Option Addr} {c : Nat} {l : List Nat} (h : IsS w k (.slice A l.length c) l) (m : Nat) : IsS w k (.slice A (min l.length m) c) (l.take m) := by
  obtain ⟨A', c', e, h1, h2, h3⟩ := h
  injection e with e1 e2 e3
  subst e1; subst e3
  refine ⟨A, c, by rw [List.length_take, Nat.min_comm], by rw [List.length_take]; omega, h2, fun i d hd => ?_⟩
  rw [List.getElem?_take] at hd
  split at hd
  · exact h3 i d hd
  · cases hd
end Go.Proofs.YtodpjmbclmlieaaGreat.rat
namespace Go.Proofs.YtodpjmbclmlieaaGreat.rat
open Go.RowKit Go.Proofs.YtodpjmbclmlieaaGreat.num Go.Proofs.YtodpjmbclmlieaaGreat.mem Go.Proofs.YtodpjmbclmlieaaGreat.nat Go.Proofs.YtodpjmbclmlieaaGreat.txt Go.Proofs.YtodpjmbclmlieaaGreat.str Go.Proofs.YtodpjmbclmlieaaGreat.flow Go.Proofs.YtodpjmbclmlieaaGreat.whl
set_option linter.unusedVariables false
theorem mk_num_eq (z : Int) {d : Nat} (hd : d ≠ 0) : (mkRat z d).num = z / ((z.natAbs.gcd d : Nat) : Int) := by
  rw [Rat.num_mkRat, if_neg hd, Nat.gcd_comm]
/-- The upper part, and what it divides. -/
theorem mk_upper (z : Int) {d : Nat} (hd : d ≠ 0) : z = (mkRat z d).num * ((z.natAbs.gcd d : Nat) : Int) := by
  rw [mk_num_eq z hd, Int.ediv_mul_cancel (Int.ofNat_dvd_left.2 (Nat.gcd_dvd_left _ _))]
theorem mk_lower (z : Int) {d : Nat} (hd : d ≠ 0) : d = (mkRat z d).den * (z.natAbs.gcd d) := by
  rw [mk_den z hd, Nat.div_mul_cancel (Nat.gcd_dvd_right _ _)]
/-- A fraction by its own parts, which nothing divides. -/
theorem parts_of {q : Rat} {n : Int} {d : Nat} (hd : d ≠ 0) (h : q = mkRat n d) (hc : Nat.gcd n.natAbs d = 1) : q.num = n ∧ q.den = d := by
  subst h
  constructor
  · rw [mk_num_eq n hd, hc]; exact Int.ediv_one n
  · rw [mk_den n hd, hc, Nat.div_one]
theorem mul_parts (x y : Rat) : (x * y).num = (mkRat x.num y.den).num * (mkRat y.num x.den).num ∧ (x * y).den = (mkRat y.num x.den).den * (mkRat x.num y.den).den := by
  have e1 := mk_upper x.num y.den_nz
  have e2 := mk_lower x.num y.den_nz
  have e3 := mk_upper y.num x.den_nz
  have e4 := mk_lower y.num x.den_nz
  have r1 := (mkRat x.num y.den).reduced
  have r2 := (mkRat y.num x.den).reduced
  have n1 := (mkRat x.num y.den).den_nz
  have n2 := (mkRat y.num x.den).den_nz
  have x1 := x.reduced
  have y1 := y.reduced
  refine parts_of (Nat.mul_ne_zero n2 n1) ?_ ?_
  · rw [Nat.mul_comm, ← Rat.mkRat_mul_mkRat, Rat.mkRat_self, Rat.mkRat_self, Rat.mkRat_mul_mkRat, Nat.mul_comm y.den, Rat.mul_def']
  · have d1 : (mkRat x.num y.den).num.natAbs ∣ x.num.natAbs := Int.natAbs_dvd_natAbs.2 ⟨_, e1⟩
    have d2 : (mkRat y.num x.den).den ∣ x.den := ⟨_, e4⟩
    have d3 : (mkRat y.num x.den).num.natAbs ∣ y.num.natAbs := Int.natAbs_dvd_natAbs.2 ⟨_, e3⟩
    have d4 : (mkRat x.num y.den).den ∣ y.den := ⟨_, e2⟩
    rw [Int.natAbs_mul]
    have c1 : Nat.Coprime (mkRat x.num y.den).num.natAbs (mkRat y.num x.den).den := Nat.Coprime.coprime_dvd_left d1 (Nat.Coprime.coprime_dvd_right d2 x1)
    have c2 : Nat.Coprime (mkRat y.num x.den).num.natAbs (mkRat x.num y.den).den := Nat.Coprime.coprime_dvd_left d3 (Nat.Coprime.coprime_dvd_right d4 y1)
    exact (Nat.Coprime.mul_right c1 r1).mul_left (Nat.Coprime.mul_right r2 c2)
theorem add_parts (x y : Rat) {g a b : Nat} (hg : g = x.den.gcd y.den) (ha : a = x.den / g) (hb : b = y.den / g) : (x + y).num = (mkRat (x.num * (b : Int) + y.num * (a : Int)) g).num ∧ (x + y).den = a * b * (mkRat (x.num * (b : Int) + y.num * (a : Int)) g).den := by
  have gp : 0 < g := by rw [hg]; exact Nat.gcd_pos_of_pos_left _ x.den_pos
  have haux := Rat.add.aux x y hg ha hb
  have e1 : x.den = a * g := by rw [ha, Nat.div_mul_cancel (by rw [hg]; exact Nat.gcd_dvd_left _ _)]
  have e2 : y.den = b * g := by rw [hb, Nat.div_mul_cancel (by rw [hg]; exact Nat.gcd_dvd_right _ _)]
  obtain ⟨S, hS⟩ : ∃ S, S = x.num * (b : Int) + y.num * (a : Int) := ⟨_, rfl⟩
  rw [← hS]
  have haux : S.natAbs.gcd g = S.natAbs.gcd (a * y.den) := by rw [hS]; exact haux
  have e3 : x + y = mkRat S (a * y.den) := by
    rw [Rat.add_def', show x.num * (y.den : Int) + y.num * (x.den : Int) = S * (g : Int) by rw [hS, e1, e2, Int.natCast_mul, Int.natCast_mul, Int.add_mul, Int.mul_assoc, Int.mul_assoc], show x.den * y.den = a * y.den * g by rw [e1]; rw [Nat.mul_assoc, Nat.mul_comm g, ← Nat.mul_assoc], Rat.mkRat_mul_right (by omega)]
  have ne : a * y.den ≠ 0 := Nat.mul_ne_zero (fun e => x.den_nz (by rw [e1, e, Nat.zero_mul])) y.den_nz
  rw [e3]
  constructor
  · rw [mk_num_eq S ne, mk_num_eq S (by omega), haux]
  · rw [mk_den S ne, mk_den S (by omega), ← haux, e2, ← Nat.mul_assoc, Nat.mul_div_assoc _ (Nat.gcd_dvd_right _ _)]
/-- The order by products crosswise. -/
theorem ordq_cross (x y : Rat) : ordq x y = ordz (x.num * ((y.den : Nat) : Int)) (y.num * ((x.den : Nat) : Int)) := by
  unfold ordq ordz
  simp only [Rat.lt_iff]
theorem eq_parts {x y : Rat} : x = y ↔ x.num = y.num ∧ x.den = y.den := ⟨fun h => by rw [h]; exact ⟨rfl, rfl⟩, fun h => Rat.ext h.1 h.2⟩
/-- A whole number, and a number, both in new memory. -/
def RetZS (z : Int) (d : Nat) (w : World) (e : Ending) (w' : World) : Prop := ∃ v u, e = .returned (.tuple #[v, u]) ∧ IsZ w' v z ∧ IsS w' .u64 u (digs 4294967296 d) ∧ FreshZ w.heap.size v ∧ Fresh w.heap.size u ∧ Below w.heap.size w w'
def pzs (z : Int) (d : Nat) (B : Nat) : Pd := ⟨fun w t => ∃ v u, t = .tuple #[v, u] ∧ IsZ w v z ∧ IsS w .u64 u (digs 4294967296 d) ∧ FreshZ B v ∧ Fresh B u, fun h hb => by obtain ⟨v, u, e, h1, h2, h3, h4⟩ := h; exact ⟨v, u, e, h1.below hb, h2.below hb, h3, h4⟩⟩
theorem RetZS.pd {z : Int} {d : Nat} {w : World} {e : Ending} {w' : World} {B : Nat} (h : RetZS z d w e w') (hB : B ≤ w.heap.size) : RetPd (pzs z d B) w e w' := by
  obtain ⟨v, u, h1, h2, h3, h4, h5, h6⟩ := h
  exact ⟨_, h1, ⟨v, u, rfl, h2, h3, h4.mono hB, h5.mono hB⟩, h6⟩
/-- A fraction in new memory, and an error's number. -/
def RetQF (q : Rat) (n : Int) (w : World) (e : Ending) (w' : World) : Prop := ∃ v, e = .returned (.tuple #[v, .int .i64 n]) ∧ IsQ w' v q ∧ FreshQ w.heap.size v ∧ Below w.heap.size w w'
def pqf (q : Rat) (n : Int) (B : Nat) : Pd := ⟨fun w t => ∃ v, t = .tuple #[v, .int .i64 n] ∧ IsQ w v q ∧ FreshQ B v, fun h hb => by obtain ⟨v, e, h1, h2⟩ := h; exact ⟨v, e, h1.below hb, h2⟩⟩
theorem RetQF.pd {q : Rat} {n : Int} {w : World} {e : Ending} {w' : World} {B : Nat} (h : RetQF q n w e w') (hB : B ≤ w.heap.size) : RetPd (pqf q n B) w e w' := by
  obtain ⟨v, h1, h2, h3, h4⟩ := h
  exact ⟨_, h1, ⟨v, rfl, h2, h3.mono hB⟩, h4⟩
theorem RetQF.e {q : Rat} {n : Int} {w : World} {e : Ending} {w' : World} (h : RetQF q n w e w') : RetQE q n w e w' := by
  obtain ⟨v, h1, h2, _, h4⟩ := h
  exact ⟨v, h1, h2, h4⟩
theorem RetZ.to {x y : Int} {w : World} {e : Ending} {w' : World} (h : RetZ x w e w') (k : x = y) : RetZ y w e w' := k ▸ h
theorem RetS.to {l m : List Nat} {w : World} {e : Ending} {w' : World} (h : RetS .u64 l w e w') (k : l = m) : RetS .u64 m w e w' := k ▸ h
theorem RetQ.to {x y : Rat} {w : World} {e : Ending} {w' : World} (h : RetQ x w e w') (k : x = y) : RetQ y w e w' := k ▸ h
/-- A struct of a sign, a slice told, and a new number. -/
def pbq (b : Bool) (S : Value) (l : List Nat) (B : Nat) : Pd := ⟨fun w v => ∃ A c, v = .agg #[.bool b, S, .slice A l.length c] ∧ IsS w .u64 (.slice A l.length c) l ∧ Fresh B (.slice A l.length c), fun h hb => by obtain ⟨A, c, e, h1, h2⟩ := h; exact ⟨A, c, e, h1.below hb, h2⟩⟩
set_option maxHeartbeats 1600000 in
set_option maxRecDepth 100000 in
theorem unsigned_any (a0 : Value) (x : Nat) (w : World) (h0 : IsS w .u64 a0 (digs 4294967296 x)) :
    Calls Tryz.prog 59 #[a0] w (RetV (.agg #[.bool false, a0]) w) := by
  have s0 := h0
  obtain ⟨A0, c0, rfl, _⟩ := id s0
  go_enter Tryz.func59, Tryz.ntmps59
  go_upto_region 1 with (fail)
  obtain ⟨wx, hwx, bb, BR0, hsz⟩ := vars1 w 26 #[.bool false, .slice none 0 0]
  rw [hwx]
  clear hwx
  have k0 := s0.below bb
  have hsz0 := bb.size
  have sB := bb.size
  refine flowp 2 [Pd.eq (.slice A0 (digs 4294967296 x).length c0), Pd.eq (.agg #[.bool false, .slice A0 (digs 4294967296 x).length c0])] (by kernel_rfl) ?ob1 ?done1
  case ob1 =>
    refine And.intro (ob_move rfl (wt_none rfl) (ev_far rfl rfl) (fun _ _ h => h)) ?_
    refine And.intro (ob_build1b rfl (wt_none rfl) (ev_dep (j := 0) (by kernel_rfl) rfl rfl) (fun w2 u hb hu => by obtain rfl := hu; exact ⟨.agg #[.bool false, .slice A0 (digs 4294967296 x).length c0], by kernel_rfl, rfl⟩)) ?_
    trivial
  case done1 =>
    refine fun w1 hb1 v0 h0 v1 h1 b hbf => ?_
    obtain rfl := h0; obtain rfl := h1
    simp only [Act.put, List.setIfInBounds_toArray, List.set_cons_zero, List.set_cons_succ] at hbf
    subst hbf
    replace BR0 := BR0.below hb1
    replace k0 := k0.below hb1
    replace bb := bb.trans (hb1.mono bb.size)
    have hsz1 := bb.size
    refine ops_store (i := 2) rfl rfl rfl rfl rfl rfl (cells := [.bool false, .slice A0 (digs 4294967296 x).length c0]) rfl BR0 rfl (by kernel_rfl) (one2 rfl rfl) fun w9 hg9 B9 => ?_
    have bb9 := bb.trans ((Below.refl _ _).grown hg9 bb.size (fun g hg => by injection hg with hg; omega))
    obtain ⟨C0, C1, _, _⟩ := Blk.two B9
    refine ops_done ?_
    go_wp2
    exact bodyPost_ret (v := .agg #[.bool false, .slice A0 (digs 4294967296 x).length c0]) (by simp [results, Tryz.results59, go_sem, C0, C1]) rfl ⟨rfl, bb9⟩
theorem unsigned_pd (a0 : Value) (x : Nat) (w : World) (h0 : IsS w .u64 a0 (digs 4294967296 x)) : Calls Tryz.prog 59 #[a0] w (RetPd (pi ((x : Nat) : Int)) w) :=
  (unsigned_any a0 x w h0).mono fun e w' h => ⟨_, h.1, isZ_mk (h0.below h.2) (Int.natAbs_natCast _) (ngB_of_pos (by omega)).symm, h.2⟩
set_option maxHeartbeats 1600000 in
set_option maxRecDepth 100000 in
theorem times_any (a0 : Value) (x : Nat) (a1 : Value) (y : Nat) (w : World) (h0 : IsS w .u64 a0 (digs 4294967296 x)) (h1 : IsS w .u64 a1 (digs 4294967296 y)) (hl : (digs 4294967296 x).length ≤ 100000) (hl2 : (digs 4294967296 y).length ≤ 100000) :
    Calls Tryz.prog 61 #[a0, a1] w (RetS .u64 (digs 4294967296 (x * y)) w) := by
  have s0 := h0
  obtain ⟨A0, c0, rfl, _⟩ := id s0
  have s1 := h1
  obtain ⟨A1, c1, rfl, _⟩ := id s1
  have bb : Below w.heap.size w w := Below.refl _ _
  have HM : Hid (((x * y : Nat) : Int) = ((x : Nat) : Int) * ((y : Nat) : Int)) := Int.natCast_mul x y
  have HL1 : Hid (lenZ ((x : Nat) : Int) ≤ 100000) := by show _ ≤ _; rw [lenD]; omega
  have HL2 : Hid (lenZ ((y : Nat) : Int) ≤ 100000) := by show _ ≤ _; rw [lenD]; omega
  go_enter Tryz.func61, Tryz.ntmps61
  go_upto_region 1 with (fail)
  have k0 := s0.below bb
  have k1 := s1.below bb
  have hsz0 := bb.size
  have sB := bb.size
  refine flowp 7 [Pd.eq (.slice A0 (digs 4294967296 x).length c0), pi (((x : Nat) : Int)), Pd.eq (.slice A1 (digs 4294967296 y).length c1), pi (((y : Nat) : Int)), pz (((x * y : Nat) : Int)) w.heap.size, ps .u64 (digs 4294967296 (x * y)) w.heap.size, ps .u64 (digs 4294967296 (x * y)) w.heap.size] (by kernel_rfl) ?ob2 ?done2
  case ob2 =>
    refine And.intro (ob_move rfl (wt_none rfl) (ev_far rfl rfl) (fun _ _ h => h)) ?_
    refine And.intro (ob_call1 rfl Tryz.func59 (by kernel_rfl) (wt_none rfl) (ev_dep (j := 0) (by kernel_rfl) rfl rfl) (fun w2 u0 hb h0 => by obtain rfl := h0; exact unsigned_pd _ (x) _ (k0.below hb))) ?_
    refine And.intro (ob_move rfl (wt_none rfl) (ev_far rfl rfl) (fun _ _ h => h)) ?_
    refine And.intro (ob_call1 rfl Tryz.func59 (by kernel_rfl) (wt_none rfl) (ev_dep (j := 2) (by kernel_rfl) rfl rfl) (fun w2 u0 hb h0 => by obtain rfl := h0; exact unsigned_pd _ (y) _ (k1.below hb))) ?_
    refine And.intro (ob_call2 rfl Tryz.func58 (by kernel_rfl) (wt_none rfl) (ev_dep (j := 1) (by kernel_rfl) rfl rfl) (ev_dep (j := 3) (by kernel_rfl) rfl rfl) (fun w2 u0 u1 hb h0 h1 => by exact (zmul_any _ _ _ _ _ _ h0 h1 HL1.out HL2.out HM.out).mono fun e w3 h => RetZ.pd h hb.size)) ?_
    refine And.intro (ob_field rfl (wt_none rfl) (ev_dep (j := 4) (by kernel_rfl) rfl rfl) (fun w2 u hu => by obtain ⟨⟨u', rfl, q'⟩, f'⟩ := hu; exact ⟨u', by kernel_rfl, q', f' _ _ rfl⟩)) ?_
    refine And.intro (ob_assign rfl (wt_none rfl) (ev_dep (j := 5) (by kernel_rfl) rfl rfl) (fun _ _ h => h)) ?_
    trivial
  case done2 =>
    refine fun w1 hb1 v0 h0 v1 h1 v2 h2 v3 h3 v4 h4 v5 h5 v6 h6 b hbf => ?_
    obtain rfl := h0; obtain rfl := h2
    have q1 := h1
    have q3 := h3
    obtain ⟨q4, f4⟩ := h4
    obtain ⟨q5, f5⟩ := h5
    obtain ⟨q6, f6⟩ := h6
    simp only [Act.put, List.setIfInBounds_toArray, List.set_cons_zero, List.set_cons_succ] at hbf
    subst hbf
    replace k0 := k0.below hb1
    replace k1 := k1.below hb1
    replace bb := bb.trans (hb1.mono bb.size)
    have hsz1 := bb.size
    have s_4 := sB
    have s_5 := sB
    have s_6 := sB
    refine ops_done ?_
    go_wp2
    go_ret
    exact ⟨_, rfl, q6, f6.mono s_6, bb⟩
set_option maxHeartbeats 1600000 in
set_option maxRecDepth 100000 in
theorem reduced_any (a0 : Value) (z : Int) (a1 : Value) (d : Nat) (U : Int) (L : Nat) (w : World) (h0 : IsZ w a0 z) (h1 : IsS w .u64 a1 (digs 4294967296 d)) (hd : d ≠ 0) (hl : lenZ z ≤ 20000) (hl2 : (digs 4294967296 d).length ≤ 20000) (hU : U = (mkRat z d).num) (hL : L = (mkRat z d).den) :
    Calls Tryz.prog 60 #[a0, a1] w (RetZS U L w) := by
  obtain ⟨u0, rfl, s0⟩ := h0
  obtain ⟨A0, c0, rfl, _⟩ := id s0
  have s1 := h1
  obtain ⟨A1, c1, rfl, _⟩ := id s1
  obtain ⟨G, hG⟩ : ∃ G, G = Nat.gcd z.natAbs d := ⟨_, rfl⟩
  have hGp : 0 < G := by rw [hG]; exact Nat.gcd_pos_of_pos_right _ (by omega)
  have hGd : G ≤ d := by rw [hG]; exact Nat.le_of_dvd (by omega) (Nat.gcd_dvd_right _ _)
  have HL1 : Hid ((digs 4294967296 z.natAbs).length ≤ 90000) := Nat.le_trans hl (by decide)
  have HL2 : Hid ((digs 4294967296 d).length ≤ 90000) := Nat.le_trans hl2 (by decide)
  have HL3 : Hid (lenZ ((G : Nat) : Int) ≤ 20000) := by show _ ≤ _; rw [lenD]; exact Nat.le_trans (digs_len_mono (by omega) hGd) hl2
  have HL4 : Hid ((digs 4294967296 G).length ≤ 90000) := Nat.le_trans (digs_len_mono (by omega) hGd) HL2.out
  have HG : Hid (gcds [z.natAbs, d] = G) := by show _ = _; rw [hG]; simp [gcds]
  have HU : Hid (z = U * ((G : Nat) : Int)) := by show _ = _; rw [hU, hG]; exact mk_upper z hd
  have HM : Hid (d % G = 0) := by show _ = _; rw [hG]; exact Nat.mod_eq_zero_of_dvd (Nat.gcd_dvd_right _ _)
  have HQ : Hid (L = d / G) := by show _ = _; rw [hL, hG]; exact mk_den z hd
  have HN : Hid (((G : Nat) : Int) ≠ 0) := by show _ ≠ _; omega
  clear hG hU hL hGd
  go_enter Tryz.func60, Tryz.ntmps60
  go_upto_region 1 with (fail)
  obtain ⟨wx, hwx, bb, B0, BR0, hsz⟩ := vars2 w 26 26 #[.bool (ngB z), .slice A0 (digs 4294967296 (z).natAbs).length c0] #[.bool false, .slice none 0 0]
  rw [hwx]
  clear hwx
  have k0s := s0.below bb
  have k0 : IsZ wx (.agg #[.bool (ngB z), .slice A0 (digs 4294967296 (z).natAbs).length c0]) (z) := isZ_mk k0s rfl rfl
  have k1 := s1.below bb
  have hsz0 := bb.size
  obtain ⟨x00, x01, _, _⟩ := Blk.two B0
  go_wp2_with fail
  have hbA := below_alloc (Nat.le_refl wx.heap.size) (.cells #[.slice A0 (digs 4294967296 (z).natAbs).length c0, .slice A1 (digs 4294967296 d).length c1] 24)
  refine (ggcd_any _ [_, _] [z.natAbs, d] _ (isV_lit wx 24 [_, _]) (nums2 (k0s.below hbA) (k1.below hbA)) (by simp) (by intro q hq; simp at hq; rcases hq with rfl | rfl; exact HL1.out; exact HL2.out)).mono ?_
  rintro e w1 ⟨v1, rfl, kg, kgf, b1⟩
  have hb1 := hbA.trans (b1.mono hbA.size)
  rw [HG.out] at kg
  clear x00 x01
  replace B0 := B0.below hb1
  replace k0s := k0s.below hb1
  replace k0 := k0.below hb1
  replace BR0 := BR0.below hb1
  replace k1 := k1.below hb1
  replace bb := bb.trans (hb1.mono bb.size)
  have hsz1 := bb.size
  obtain ⟨Akg, ckg, rfl, _⟩ := id kg
  have sB := bb.size
  go_upto_region 2 with (fail)
  have lt1_2 := Blk.lt B0
  have lt1_4 := Blk.lt BR0
  refine flowl 8 [Pd.eq (.agg #[.bool (ngB z), .slice A0 (digs 4294967296 (z).natAbs).length c0]), Pd.eq (.slice Akg (digs 4294967296 G).length ckg), pi (((G : Nat) : Int)), pze (U) 0 w1.heap.size, pze (U) 0 w1.heap.size, pz (U) w1.heap.size, Pd.eq (.int .i64 0), pn 26 #[.bool false, .slice none 0 0] w1.heap.size] (by kernel_rfl) 6 rfl (by kernel_rfl) (fun _ _ _ _ h => h) (late_extract rfl rfl (ev_dep (j := 4) (by kernel_rfl) rfl rfl) (fun w2 u hu => by obtain ⟨v, rfl, q1, q2⟩ := hu; exact ⟨_, fun _ => rfl, rfl⟩)) ?ob3 ?done3
  case ob3 =>
    refine And.intro (ob_load rfl (wt_none rfl) (ev_far rfl rfl) (fun w2 hb => run_loadAll Tryz.underlying26 rfl (by kernel_rfl) (B0.drew.below hb)) (fun _ _ => rfl)) ?_
    refine And.intro (ob_move rfl (wt_none rfl) (ev_far rfl rfl) (fun _ _ h => h)) ?_
    refine And.intro (ob_call1 rfl Tryz.func59 (by kernel_rfl) (wt_none rfl) (ev_dep (j := 1) (by kernel_rfl) rfl rfl) (fun w2 u0 hb h0 => by obtain rfl := h0; exact unsigned_pd _ (G) _ (kg.drew.below hb))) ?_
    refine And.intro (ob_call2 rfl Tryz.func86 (by kernel_rfl) (wt_none rfl) (ev_dep (j := 0) (by kernel_rfl) rfl rfl) (ev_dep (j := 2) (by kernel_rfl) rfl rfl) (fun w2 u0 u1 hb h0 h1 => by obtain rfl := h0; exact (zexact_ok _ z _ _ U _ (k0.drew.below hb) h1 hl HL3.out HN.out HU.out).mono fun e w3 h => RetZE.pd h hb.size)) ?_
    refine And.intro (ob_move rfl (wt_none rfl) (ev_dep (j := 3) (by kernel_rfl) rfl rfl) (fun _ _ h => h)) ?_
    refine And.intro (ob_extract rfl (wt_none rfl) (ev_dep (j := 4) (by kernel_rfl) rfl rfl) (fun w2 u hu => by obtain ⟨v, rfl, q1, q2⟩ := hu; exact ⟨v, rfl, q1, q2⟩)) ?_
    refine And.intro (ob_extract rfl (wt_none rfl) (ev_dep (j := 4) (by kernel_rfl) rfl rfl) (fun w2 u hu => by obtain ⟨v, rfl, q1, q2⟩ := hu; exact ⟨_, rfl, rfl⟩)) ?_
    refine And.intro (ob_alloc (z := .agg #[.bool false, .slice none 0 0]) rfl rfl (fun _ => by kernel_rfl) (fun _ _ hB h => ⟨_, rfl, hB, h⟩)) ?_
    trivial
  case done3 =>
    refine fun w2 hb2 v0 h0 v1 h1 v2 h2 v3 h3 v4 h4 v5 h5 v6 h6 v7 h7 d7 b hbf => ?_
    obtain rfl := h0; obtain rfl := h1; obtain rfl := h6
    have q2 := h2
    clear h3
    clear h4
    obtain ⟨q5, f5⟩ := h5
    obtain ⟨g3_7, rfl, hg7, B7⟩ := h7
    simp only [Act.put, List.setIfInBounds_toArray, List.set_cons_zero, List.set_cons_succ] at hbf
    subst hbf
    replace B0 := B0.below hb2
    replace k0s := k0s.below hb2
    replace k0 := k0.below hb2
    replace BR0 := BR0.below hb2
    replace k1 := k1.below hb2
    replace kg := kg.below hb2
    replace bb := bb.trans (hb2.mono bb.size)
    have hsz2 := bb.size
    have s_5 := sB
    have BA7 := B7
    obtain ⟨u5, rfl, q5⟩ := q5
    obtain ⟨A7, c7, rfl, _⟩ := id q5
    refine any_store (i := 8) (by kernel_rfl) rfl rfl rfl rfl rfl rfl (cells := [.bool (ngB U), .slice A7 (digs 4294967296 (U).natAbs).length c7]) rfl BA7 rfl (by kernel_rfl) (one2 rfl rfl) fun w3 hg3 BN3 => ?_
    replace q5 := off q5 BA7 no_ints2 hg3
    replace k1 := off k1 BA7 no_ints2 hg3
    replace kg := off kg BA7 no_ints2 hg3
    replace k0s := off k0s BA7 no_ints2 hg3
    replace k0 : IsZ w3 (.agg #[.bool (ngB z), .slice A0 (digs 4294967296 (z).natAbs).length c0]) (z) := ⟨_, rfl, k0s⟩
    replace B0 := B0.grown hg3 (by omega)
    replace BR0 := BR0.grown hg3 (by omega)
    replace bb := bb.trans ((Below.refl _ _).grown hg3 bb.size (fun g hg => by injection hg with hg; omega))
    have hsz3 := bb.size
    have B7 : Blk w3 (g3_7) _ _ := BN3
    have k7s := q5
    have k7 : IsZ w3 (.agg #[.bool (ngB U), .slice A7 (digs 4294967296 (U).natAbs).length c7]) (U) := ⟨_, rfl, k7s⟩
    refine any_assign (i := 9) (.int .i64 0) (by kernel_rfl) rfl rfl rfl rfl rfl fun b hbf => ?_
    simp only [Act.put, List.setIfInBounds_toArray, List.set_cons_zero, List.set_cons_succ] at hbf
    subst hbf
    refine any_done (by kernel_rfl) ?_
    have f7_ := (f5 _ _ rfl).mono s_5
    have sB := bb.size
    go_upto_region 3 with (fail)
    refine flowp 8 [Pd.eq (.slice A1 (digs 4294967296 d).length c1), Pd.eq (.slice Akg (digs 4294967296 G).length ckg), pt .u64 (digs 4294967296 L) 0 w3.heap.size, pt .u64 (digs 4294967296 L) 0 w3.heap.size, ps .u64 (digs 4294967296 L) w3.heap.size, Pd.eq (.int .i64 0), ps .u64 (digs 4294967296 L) w3.heap.size, Pd.eq (.int .i64 0)] (by kernel_rfl) ?ob4 ?done4
    case ob4 =>
      refine And.intro (ob_move rfl (wt_none rfl) (ev_far rfl rfl) (fun _ _ h => h)) ?_
      refine And.intro (ob_move rfl (wt_none rfl) (ev_far rfl rfl) (fun _ _ h => h)) ?_
      refine And.intro (ob_call2 rfl Tryz.func56 (by kernel_rfl) (wt_none rfl) (ev_dep (j := 0) (by kernel_rfl) rfl rfl) (ev_dep (j := 1) (by kernel_rfl) rfl rfl) (fun w2 u0 u1 hb h0 h1 => by obtain rfl := h0; obtain rfl := h1; exact (dexact_ok _ _ d G _ (k1.below hb) (kg.below hb) HL2.out HL4.out hGp L HM.out HQ.out).mono fun e w3 h => RetSI.pd h hb.size)) ?_
      refine And.intro (ob_move rfl (wt_none rfl) (ev_dep (j := 2) (by kernel_rfl) rfl rfl) (fun _ _ h => h)) ?_
      refine And.intro (ob_extract rfl (wt_none rfl) (ev_dep (j := 3) (by kernel_rfl) rfl rfl) (fun w2 u hu => by obtain ⟨v, rfl, q1, q2⟩ := hu; exact ⟨v, rfl, q1, q2⟩)) ?_
      refine And.intro (ob_extract rfl (wt_none rfl) (ev_dep (j := 3) (by kernel_rfl) rfl rfl) (fun w2 u hu => by obtain ⟨v, rfl, q1, q2⟩ := hu; exact ⟨_, rfl, rfl⟩)) ?_
      refine And.intro (ob_assign rfl (wt_none rfl) (ev_dep (j := 4) (by kernel_rfl) rfl rfl) (fun _ _ h => h)) ?_
      refine And.intro (ob_assign rfl (wt_none rfl) (ev_dep (j := 5) (by kernel_rfl) rfl rfl) (fun _ _ h => h)) ?_
      trivial
    case done4 =>
      refine fun w4 hb4 v0 h0 v1 h1 v2 h2 v3 h3 v4 h4 v5 h5 v6 h6 v7 h7 b hbf => ?_
      obtain rfl := h0; obtain rfl := h1; obtain rfl := h5; obtain rfl := h7
      clear h2
      clear h3
      obtain ⟨q4, f4⟩ := h4
      obtain ⟨q6, f6⟩ := h6
      simp only [Act.put, List.setIfInBounds_toArray, List.set_cons_zero, List.set_cons_succ] at hbf
      subst hbf
      replace B0 := B0.below hb4
      replace k0s := k0s.below hb4
      replace k0 := k0.below hb4
      replace BR0 := BR0.below hb4
      replace B7 := B7.below hb4
      replace k7s := k7s.below hb4
      replace k7 := k7.below hb4
      replace k1 := k1.below hb4
      replace kg := kg.below hb4
      replace bb := bb.trans (hb4.mono bb.size)
      have hsz4 := bb.size
      have s_4 := sB
      have s_6 := sB
      refine ops_done ?_
      obtain ⟨A9, c9, rfl, _⟩ := id q6
      have n9 := q6
      have n9f := f6
      have n9z_ := s_6
      have sB := bb.size
      go_upto_region 4 with (fail)
      refine flowp 2 [Pd.eq (.agg #[.bool (ngB U), .slice A7 (digs 4294967296 (U).natAbs).length c7]), Pd.eq (.slice A9 (digs 4294967296 L).length c9)] (by kernel_rfl) ?ob5 ?done5
      case ob5 =>
        refine And.intro (ob_load rfl (wt_none rfl) (ev_far rfl rfl) (fun w2 hb => run_loadAll Tryz.underlying26 rfl (by kernel_rfl) (B7.below hb)) (fun _ _ => rfl)) ?_
        refine And.intro (ob_move rfl (wt_none rfl) (ev_far rfl rfl) (fun _ _ h => h)) ?_
        trivial
      case done5 =>
        refine fun w5 hb5 v0 h0 v1 h1 b hbf => ?_
        obtain rfl := h0; obtain rfl := h1
        simp only [Act.put, List.setIfInBounds_toArray, List.set_cons_zero, List.set_cons_succ] at hbf
        subst hbf
        replace B0 := B0.below hb5
        replace k0s := k0s.below hb5
        replace k0 := k0.below hb5
        replace BR0 := BR0.below hb5
        replace B7 := B7.below hb5
        replace k7s := k7s.below hb5
        replace k7 := k7.below hb5
        replace k1 := k1.below hb5
        replace kg := kg.below hb5
        replace n9 := n9.below hb5
        replace bb := bb.trans (hb5.mono bb.size)
        have hsz5 := bb.size
        refine ops_store (i := 2) rfl rfl rfl rfl rfl rfl (cells := [.bool (ngB U), .slice A7 (digs 4294967296 (U).natAbs).length c7]) rfl BR0 rfl (by kernel_rfl) (one2 rfl rfl) fun wx9 hg9 BX9 => ?_
        have m9 := off k7s BR0 no_ints2 hg9
        have l9 := off n9 BR0 no_ints2 hg9
        have bb9 := bb.trans ((Below.refl _ _).grown hg9 bb.size (fun g hg => by injection hg with hg; omega))
        obtain ⟨C0, C1, _, _⟩ := Blk.two BX9
        refine ops_assign (i := 3) (.slice A9 (digs 4294967296 L).length c9) rfl rfl rfl rfl rfl fun b hbf => ?_
        simp only [Act.put, List.setIfInBounds_toArray, List.set_cons_zero, List.set_cons_succ] at hbf
        subst hbf
        refine ops_done ?_
        go_wp2
        exact bodyPost_ret (v := .tuple #[.agg #[.bool (ngB U), .slice A7 (digs 4294967296 (U).natAbs).length c7], .slice A9 (digs 4294967296 L).length c9]) (by simp [results, Tryz.results60, go_sem, C0, C1]) rfl ⟨_, _, rfl, isZ_mk m9 rfl rfl, l9, freshZ_mk f7_, n9f.mono n9z_, bb9⟩
set_option maxHeartbeats 1600000 in
set_option maxRecDepth 100000 in
theorem neg8_any (a0 : Value) (q : Rat) (w : World) (h0 : IsQ w a0 q) (hl : lenQ q 100000) :
    Calls Tryz.prog 63 #[a0] w (RetQ (-q) w) := by
  obtain ⟨u0, t0, rfl, s0, r0⟩ := h0
  obtain ⟨A0, c0, rfl, _⟩ := id s0
  obtain ⟨D0, e0, rfl, _⟩ := id r0
  have HN : Hid (-q.num = (-q).num) := (neg_parts q).1.symm
  have HD : Hid (q.den = (-q).den) := (neg_parts q).2.symm
  go_enter Tryz.func63, Tryz.ntmps63
  go_upto_region 1 with (fail)
  obtain ⟨wx, hwx, bb, B0, BR0, hsz⟩ := vars2 w 28 28 #[.bool (ngB (q).num), .slice A0 (digs 4294967296 (q).num.natAbs).length c0, .slice D0 (digs 4294967296 (q).den).length e0] #[.bool false, .slice none 0 0, .slice none 0 0]
  rw [hwx]
  clear hwx
  have k0s := s0.below bb
  have k0d := r0.below bb
  have k0z : IsZ wx (.agg #[.bool (ngB (q).num), .slice A0 (digs 4294967296 (q).num.natAbs).length c0]) (q).num := ⟨_, rfl, k0s⟩
  have k0 : IsQ wx (.agg #[.bool (ngB (q).num), .slice A0 (digs 4294967296 (q).num.natAbs).length c0, .slice D0 (digs 4294967296 (q).den).length e0]) (q) := ⟨_, _, rfl, k0s, k0d⟩
  have hsz0 := bb.size
  have sB := bb.size
  refine flow 7 [Pd.eq (.pointer (some ⟨w.heap.size, 0, none⟩)), Pd.eq (.agg #[.bool (ngB (q).num), .slice A0 (digs 4294967296 (q).num.natAbs).length c0]), pz ((-q).num) wx.heap.size, Pd.eq (.pointer (some ⟨w.heap.size, 2, none⟩)), Pd.eq (.slice D0 (digs 4294967296 (q).den).length e0), ps .u64 (digs 4294967296 (-q).den) wx.heap.size, pq (-q) wx.heap.size] (by kernel_rfl) (by kernel_rfl) ?ob6 ?done6
  case ob6 =>
    refine And.intro (ob_fieldAddr rfl (wt_none rfl) (ev_far rfl rfl) (fun _ => by kernel_rfl) (fun _ => rfl)) ?_
    refine And.intro (ob_load rfl (wt_none rfl) (ev_dep (j := 0) (by kernel_rfl) rfl rfl) (fun w2 hb => run_loadPart Tryz.underlying26 rfl (by kernel_rfl) (B0.drew.below hb) rfl) (fun _ _ => rfl)) ?_
    refine And.intro (ob_call1 rfl Tryz.func87 (by kernel_rfl) (wt_none rfl) (ev_dep (j := 1) (by kernel_rfl) rfl rfl) (fun w2 u0 hb h0 => by obtain rfl := h0; exact (zneg_any _ q.num _ (k0z.drew.below hb) (Nat.le_trans hl.1 (by decide))).mono fun e w3 h => RetZ.pd (RetZ.to h HN.out) hb.size)) ?_
    refine And.intro (ob_fieldAddr rfl (wt_none rfl) (ev_far rfl rfl) (fun _ => by kernel_rfl) (fun _ => rfl)) ?_
    refine And.intro (ob_load rfl (wt_none rfl) (ev_dep (j := 3) (by kernel_rfl) rfl rfl) (fun w2 hb => run_load1 Tryz.underlying24 rfl ((B0.drew.below hb).cell 2)) (fun _ _ => rfl)) ?_
    refine And.intro (ob_call1 rfl Tryz.func62 (by kernel_rfl) (wt_none rfl) (ev_dep (j := 4) (by kernel_rfl) rfl rfl) (fun w2 u0 hb h0 => by obtain rfl := h0; exact (clone_any _ _ _ (k0d.drew.below hb) (Nat.le_trans hl.2 (by decide))).mono fun e w3 h => RetS.pd (RetS.to h (congrArg (digs 4294967296) HD.out)) hb.size)) ?_
    refine And.intro (ob_build2b rfl (wt_none rfl) (ev_dep (j := 2) (by kernel_rfl) rfl rfl) (ev_dep (j := 5) (by kernel_rfl) rfl rfl) (fun w2 u v hb hu hv => by obtain ⟨u7, rfl, hu7⟩ := hu.1; obtain ⟨A7, c7, rfl, _⟩ := id hu7; obtain ⟨A8, c8, rfl, _⟩ := id hv.1; exact ⟨.agg #[.bool (ngB (-q).num), .slice A7 (digs 4294967296 (-q).num.natAbs).length c7, .slice A8 (digs 4294967296 (-q).den).length c8], by kernel_rfl, ⟨⟨_, _, rfl, hu7, hv.1⟩, freshQ_mk (hu.2 _ _ rfl) hv.2⟩⟩)) ?_
    trivial
  case done6 =>
    refine fun w11 hb11 v0 h0 v1 h1 v2 h2 v3 h3 v4 h4 v5 h5 v6 h6 b hbf => ?_
    obtain rfl := h0; obtain rfl := h1; obtain rfl := h3; obtain rfl := h4
    obtain ⟨q2, f2⟩ := h2
    obtain ⟨q5, f5⟩ := h5
    obtain ⟨q6, f6⟩ := h6
    simp only [Act.put, List.setIfInBounds_toArray, List.set_cons_zero, List.set_cons_succ] at hbf
    subst hbf
    replace B0 := B0.below hb11
    replace k0s := k0s.below hb11
    replace k0d := k0d.below hb11
    replace k0z := k0z.below hb11
    replace k0 := k0.below hb11
    replace BR0 := BR0.below hb11
    replace bb := bb.trans (hb11.mono bb.size)
    have hsz11 := bb.size
    have s_2 := sB
    have s_5 := sB
    have s_6 := sB
    obtain ⟨u6, t6, rfl, q6, d6⟩ := q6
    obtain ⟨A9, c9, rfl, _⟩ := id q6
    obtain ⟨D9, e9, rfl, _⟩ := id d6
    refine any_store (i := 7) (by kernel_rfl) rfl rfl rfl rfl rfl rfl (cells := [.bool (ngB (-q).num), .slice A9 (digs 4294967296 (-q).num.natAbs).length c9, .slice D9 (digs 4294967296 (-q).den).length e9]) rfl BR0 rfl (by kernel_rfl) (one3 rfl rfl rfl) fun w9 hg9 B9 => ?_
    have k9 := off q6 BR0 no_ints3 hg9
    have d9 := off d6 BR0 no_ints3 hg9
    have f9 := f6.mono (show w.heap.size ≤ _ from s_6)
    have bb9 := bb.trans ((Below.refl _ _).grown hg9 bb.size (fun g hg => by injection hg with hg; omega))
    obtain ⟨C0, C1, C2, _, _, _⟩ := three B9
    refine any_done (by kernel_rfl) ?_
    go_wp2
    exact bodyPost_ret (v := .agg #[.bool (ngB (-q).num), .slice A9 (digs 4294967296 (-q).num.natAbs).length c9, .slice D9 (digs 4294967296 (-q).den).length e9]) (by simp [results, Tryz.results63, go_sem, C0, C1, C2]) rfl ⟨_, rfl, ⟨_, _, rfl, k9, d9⟩, f9, bb9⟩
set_option maxHeartbeats 1600000 in
set_option maxRecDepth 100000 in
theorem fsign0_any (a0 : Value) (x : Rat) (t : Int) (w : World) (h0 : IsQ w a0 x) (ht : t = ordz x.num 0) :
    Calls Tryz.prog 44 #[a0] w (RetV (.int .i64 t) w) := by
  obtain ⟨u0, t0, rfl, s0, r0⟩ := h0
  obtain ⟨A0, c0, rfl, _⟩ := id s0
  obtain ⟨D0, e0, rfl, _⟩ := id r0
  have HT := Lib.hid ht
  clear ht
  go_enter Tryz.func44, Tryz.ntmps44
  go_upto_region 1 with (fail)
  obtain ⟨wx, hwx, bb, B0, hsz⟩ := vars1 w 28 #[.bool (ngB (x).num), .slice A0 (digs 4294967296 (x).num.natAbs).length c0, .slice D0 (digs 4294967296 (x).den).length e0]
  rw [hwx]
  clear hwx
  have k0s := s0.below bb
  have k0d := r0.below bb
  have k0z : IsZ wx (.agg #[.bool (ngB (x).num), .slice A0 (digs 4294967296 (x).num.natAbs).length c0]) (x).num := ⟨_, rfl, k0s⟩
  have k0 : IsQ wx (.agg #[.bool (ngB (x).num), .slice A0 (digs 4294967296 (x).num.natAbs).length c0, .slice D0 (digs 4294967296 (x).den).length e0]) (x) := ⟨_, _, rfl, k0s, k0d⟩
  have hsz0 := bb.size
  have sB := bb.size
  refine flowp 4 [Pd.eq (.pointer (some ⟨w.heap.size, 0, none⟩)), Pd.eq (.agg #[.bool (ngB (x).num), .slice A0 (digs 4294967296 (x).num.natAbs).length c0]), Pd.eq (.int .i64 t), Pd.eq (.int .i64 t)] (by kernel_rfl) ?ob7 ?done7
  case ob7 =>
    refine And.intro (ob_fieldAddr rfl (wt_none rfl) (ev_far rfl rfl) (fun _ => by kernel_rfl) (fun _ => rfl)) ?_
    refine And.intro (ob_load rfl (wt_none rfl) (ev_dep (j := 0) (by kernel_rfl) rfl rfl) (fun w2 hb => run_loadPart Tryz.underlying26 rfl (by kernel_rfl) (B0.below hb) rfl) (fun _ _ => rfl)) ?_
    refine And.intro (ob_call1 rfl Tryz.func72 (by kernel_rfl) (wt_none rfl) (ev_dep (j := 1) (by kernel_rfl) rfl rfl) (fun w2 u0 hb h0 => by obtain rfl := h0; exact (sign_any _ x.num t _ (k0z.below hb) HT.out).mono fun e w3 h => RetV.pd h)) ?_
    refine And.intro (ob_assign rfl (wt_none rfl) (ev_dep (j := 2) (by kernel_rfl) rfl rfl) (fun _ _ h => h)) ?_
    trivial
  case done7 =>
    refine fun w1 hb1 v0 h0 v1 h1 v2 h2 v3 h3 b hbf => ?_
    obtain rfl := h0; obtain rfl := h1; obtain rfl := h2; obtain rfl := h3
    simp only [Act.put, List.setIfInBounds_toArray, List.set_cons_zero, List.set_cons_succ] at hbf
    subst hbf
    replace B0 := B0.below hb1
    replace k0s := k0s.below hb1
    replace k0d := k0d.below hb1
    replace k0z := k0z.below hb1
    replace k0 := k0.below hb1
    replace bb := bb.trans (hb1.mono bb.size)
    have hsz1 := bb.size
    refine ops_done ?_
    go_wp2
    go_ret
    exact ⟨rfl, bb⟩
theorem SlF.drew {k : IntKind} {B : Nat} {w : World} {v : Value} {qs : List Rat} (h : SlF k B w v qs) : SlF k B w.drew v qs := h
/-- A slice of fractions is kept where a variable without ints is set that is not its row. -/
theorem SlF.off {k : IntKind} {B : Nat} {w w' : World} {v : Value} {qs : List Rat} {g : Nat} {e : TypeId} {cs : Array Value} (h : SlF k B w v qs) (hB : w.heap[g]? = some (.cells cs e (0, 0))) (hno : ∀ c ∈ cs, ∀ n, c ≠ .int k n) (hg : w.grownBy w' (some g)) (hne : v.ownBlock ≠ some g) : SlF k B w' v qs := by
  obtain ⟨ps, e1, ⟨A, c, rfl, h1, h2, h3⟩, h4⟩ := h
  have key : ∀ (g2 o2 : Nat) (x : Value), A = some ⟨g2, o2, none⟩ → ∀ j, w.cell? ⟨g2, j, none⟩ = some x → w'.cell? ⟨g2, j, none⟩ = some x := fun g2 o2 x hA j hc => by
    subst hA
    have hne2 : g2 ≠ g := fun e => hne (by subst e; rfl)
    have hb := hg.block g2 (World.block_lt_of_cell? w _ hc) (fun e => hne2 (by injection e))
    rw [← hc]
    simp only [World.cell?, hb]
  refine ⟨ps, e1, ⟨A, c, rfl, h1, h2, fun i p hp => ?_⟩, fun p hp => ⟨Go.Proofs.YtodpjmbclmlieaaGreat.flow.off (h4 p hp).1 hB hno hg, Go.Proofs.YtodpjmbclmlieaaGreat.flow.off (h4 p hp).2 hB hno hg⟩⟩
  obtain ⟨g2, o2, hA, c0, c1, c2⟩ := h3 i p hp
  exact ⟨g2, o2, hA, key g2 o2 _ hA _ c0, key g2 o2 _ hA _ c1, key g2 o2 _ hA _ c2⟩
set_option maxHeartbeats 1600000 in
set_option maxRecDepth 100000 in
theorem qadd_any (a0 : Value) (x : Rat) (a1 : Value) (y : Rat) (w : World) (h0 : IsP w a0 x) (h1 : IsP w a1 y) (hl : lenQ x 5000) (hl2 : lenQ y 5000) :
    Calls Tryz.prog 50 #[a0, a1] w (RetPF (x + y) w) := by
  obtain ⟨u0, t0, rfl, s0, r0⟩ := h0
  obtain ⟨A0, c0, rfl, _⟩ := id s0
  obtain ⟨D0, e0, rfl, _⟩ := id r0
  obtain ⟨u1, t1, rfl, s1, r1⟩ := h1
  obtain ⟨A1, c1, rfl, _⟩ := id s1
  obtain ⟨D1, e1, rfl, _⟩ := id r1
  have HA : Hid (mkRat (x.num * y.den + y.num * x.den) (x.den * y.den) = x + y) := (Rat.add_def' x y).symm
  have lx1 := hl.1
  have lx2 : lenZ ((x.den : Nat) : Int) ≤ 5000 := by rw [lenD]; exact hl.2
  have ly1 := hl2.1
  have ly2 : lenZ ((y.den : Nat) : Int) ≤ 5000 := by rw [lenD]; exact hl2.2
  have lp : lenZ (x.num * ((y.den : Nat) : Int)) ≤ 10000 := lenZ_mul_le lx1 ly2
  have lq : lenZ (y.num * ((x.den : Nat) : Int)) ≤ 10000 := lenZ_mul_le ly1 lx2
  have HLZ : Hid (lenZ (x.num * ((y.den : Nat) : Int) + y.num * ((x.den : Nat) : Int)) ≤ 30000) := Nat.le_trans (lenZ_add_le lp lq) (by decide)
  have HLD : Hid ((digs 4294967296 (x.den * y.den)).length ≤ 30000) := by show _ ≤ _; have := mul_len x.den y.den; have h1 := hl.2; have h2 := hl2.2; omega
  go_enter Tryz.func50, Tryz.ntmps50
  go_upto_region 1 with (fail)
  obtain ⟨wx, hwx, bb, B0, B1, BR0, hsz⟩ := vars3 w 45 45 45 #[.bool (ngB (x).num), .slice A0 (digs 10000 (x).num.natAbs).length c0, .slice D0 (digs 10000 (x).den).length e0] #[.bool (ngB (y).num), .slice A1 (digs 10000 (y).num.natAbs).length c1, .slice D1 (digs 10000 (y).den).length e1] #[.bool false, .slice none 0 0, .slice none 0 0]
  rw [hwx]
  clear hwx
  have k0s := s0.below bb
  have k0d := r0.below bb
  have k0z : IsR wx (.agg #[.bool (ngB (x).num), .slice A0 (digs 10000 (x).num.natAbs).length c0]) (x).num := ⟨_, rfl, k0s⟩
  have k0 : IsP wx (.agg #[.bool (ngB (x).num), .slice A0 (digs 10000 (x).num.natAbs).length c0, .slice D0 (digs 10000 (x).den).length e0]) (x) := ⟨_, _, rfl, k0s, k0d⟩
  have k1s := s1.below bb
  have k1d := r1.below bb
  have k1z : IsR wx (.agg #[.bool (ngB (y).num), .slice A1 (digs 10000 (y).num.natAbs).length c1]) (y).num := ⟨_, rfl, k1s⟩
  have k1 : IsP wx (.agg #[.bool (ngB (y).num), .slice A1 (digs 10000 (y).num.natAbs).length c1, .slice D1 (digs 10000 (y).den).length e1]) (y) := ⟨_, _, rfl, k1s, k1d⟩
  have hsz0 := bb.size
  have sB := bb.size
  have lt10_2 := Blk.lt B0
  have lt10_3 := Blk.lt B1
  have lt10_4 := Blk.lt BR0
  refine flow 14 [Pd.eq (.pointer (some ⟨w.heap.size, 0, none⟩)), Pd.eq (.agg #[.bool (ngB (x).num), .slice A0 (digs 10000 (x).num.natAbs).length c0]), Pd.eq (.pointer (some ⟨w.heap.size + 1, 2, none⟩)), Pd.eq (.slice D1 (digs 10000 (y).den).length e1), pr (((y.den : Nat) : Int)), pr ((x.num * ((y.den : Nat) : Int))), Pd.eq (.pointer (some ⟨w.heap.size + 1, 0, none⟩)), Pd.eq (.agg #[.bool (ngB (y).num), .slice A1 (digs 10000 (y).num.natAbs).length c1]), Pd.eq (.pointer (some ⟨w.heap.size, 2, none⟩)), Pd.eq (.slice D0 (digs 10000 (x).den).length e0), pr (((x.den : Nat) : Int)), pr ((y.num * ((x.den : Nat) : Int))), pn 43 #[.bool false, .slice none 0 0] wx.heap.size, pn 43 #[.bool false, .slice none 0 0] wx.heap.size] (by kernel_rfl) (by kernel_rfl) ?ob1 ?done1
  case ob1 =>
    refine And.intro (ob_fieldAddr rfl (wt_none rfl) (ev_far rfl rfl) (fun _ => by kernel_rfl) (fun _ => rfl)) ?_
    refine And.intro (ob_load rfl (wt_none rfl) (ev_dep (j := 0) (by kernel_rfl) rfl rfl) (fun w2 hb => run_loadPart Tryz.underlying43 rfl (by kernel_rfl) (B0.drew.below hb) rfl) (fun _ _ => rfl)) ?_
    refine And.intro (ob_fieldAddr rfl (wt_none rfl) (ev_far rfl rfl) (fun _ => by kernel_rfl) (fun _ => rfl)) ?_
    refine And.intro (ob_load rfl (wt_none rfl) (ev_dep (j := 2) (by kernel_rfl) rfl rfl) (fun w2 hb => run_load1 Tryz.underlying41 rfl ((B1.drew.below hb).cell 2)) (fun _ _ => rfl)) ?_
    refine And.intro (ob_build1b rfl (wt_none rfl) (ev_dep (j := 3) (by kernel_rfl) rfl rfl) (fun w2 u hb hu => by obtain rfl := hu; exact ⟨.agg #[.bool false, .slice D1 (digs 10000 (y).den).length e1], by kernel_rfl, isR_mk (k1d.drew.below hb) (Int.natAbs_natCast _) (ngB_of_pos (by omega)).symm⟩)) ?_
    refine And.intro (ob_call2 rfl Tryz.func64 (by kernel_rfl) (wt_none rfl) (ev_dep (j := 1) (by kernel_rfl) rfl rfl) (ev_dep (j := 4) (by kernel_rfl) rfl rfl) (fun w2 u0 u1 hb h0 h1 => by obtain rfl := h0; exact (rmul_any _ _ _ _ _ (k0z.drew.below hb) h1 (Nat.le_trans lx1 (by decide)) (Nat.le_trans ly2 (by decide))).mono fun e w3 h => RetR.pd h)) ?_
    refine And.intro (ob_fieldAddr rfl (wt_none rfl) (ev_far rfl rfl) (fun _ => by kernel_rfl) (fun _ => rfl)) ?_
    refine And.intro (ob_load rfl (wt_none rfl) (ev_dep (j := 6) (by kernel_rfl) rfl rfl) (fun w2 hb => run_loadPart Tryz.underlying43 rfl (by kernel_rfl) (B1.drew.below hb) rfl) (fun _ _ => rfl)) ?_
    refine And.intro (ob_fieldAddr rfl (wt_none rfl) (ev_far rfl rfl) (fun _ => by kernel_rfl) (fun _ => rfl)) ?_
    refine And.intro (ob_load rfl (wt_none rfl) (ev_dep (j := 8) (by kernel_rfl) rfl rfl) (fun w2 hb => run_load1 Tryz.underlying41 rfl ((B0.drew.below hb).cell 2)) (fun _ _ => rfl)) ?_
    refine And.intro (ob_build1b rfl (wt_none rfl) (ev_dep (j := 9) (by kernel_rfl) rfl rfl) (fun w2 u hb hu => by obtain rfl := hu; exact ⟨.agg #[.bool false, .slice D0 (digs 10000 (x).den).length e0], by kernel_rfl, isR_mk (k0d.drew.below hb) (Int.natAbs_natCast _) (ngB_of_pos (by omega)).symm⟩)) ?_
    refine And.intro (ob_call2 rfl Tryz.func64 (by kernel_rfl) (wt_none rfl) (ev_dep (j := 7) (by kernel_rfl) rfl rfl) (ev_dep (j := 10) (by kernel_rfl) rfl rfl) (fun w2 u0 u1 hb h0 h1 => by obtain rfl := h0; exact (rmul_any _ _ _ _ _ (k1z.drew.below hb) h1 (Nat.le_trans ly1 (by decide)) (Nat.le_trans lx2 (by decide))).mono fun e w3 h => RetR.pd h)) ?_
    refine And.intro (ob_alloc (z := .agg #[.bool false, .slice none 0 0]) rfl rfl (fun _ => by kernel_rfl) (fun _ _ hB h => ⟨_, rfl, hB, h⟩)) ?_
    refine And.intro (ob_alloc (z := .agg #[.bool false, .slice none 0 0]) rfl rfl (fun _ => by kernel_rfl) (fun _ _ hB h => ⟨_, rfl, hB, h⟩)) ?_
    trivial
  case done1 =>
    refine fun w11 hb11 v0 h0 v1 h1 v2 h2 v3 h3 v4 h4 v5 h5 v6 h6 v7 h7 v8 h8 v9 h9 v10 h10 v11 h11 v12 h12 d12 v13 h13 d13 b hbf => ?_
    obtain rfl := h0; obtain rfl := h1; obtain rfl := h2; obtain rfl := h3; obtain rfl := h6; obtain rfl := h7; obtain rfl := h8; obtain rfl := h9
    have q4 := h4
    have q5 := h5
    have q10 := h10
    have q11 := h11
    obtain ⟨g1_12, rfl, hg12, B12⟩ := h12
    obtain ⟨g1_13, rfl, hg13, B13⟩ := h13
    simp only [Act.put, List.setIfInBounds_toArray, List.set_cons_zero, List.set_cons_succ] at hbf
    subst hbf
    replace B0 := B0.below hb11
    replace k0s := k0s.below hb11
    replace k0d := k0d.below hb11
    replace k0z := k0z.below hb11
    replace k0 := k0.below hb11
    replace B1 := B1.below hb11
    replace k1s := k1s.below hb11
    replace k1d := k1d.below hb11
    replace k1z := k1z.below hb11
    replace k1 := k1.below hb11
    replace BR0 := BR0.below hb11
    replace bb := bb.trans (hb11.mono bb.size)
    have hsz11 := bb.size
    have BA5 := B12
    have BA6 := B13
    have hne12_13 : g1_12 ≠ g1_13 := fun e => d13 (.pointer (some ⟨g1_12, 0, none⟩)) (by simp) (by rw [e])
    obtain ⟨u5, rfl, q5⟩ := q5
    obtain ⟨A5, c5, rfl, _⟩ := id q5
    obtain ⟨u11, rfl, q11⟩ := q11
    obtain ⟨A6, c6, rfl, _⟩ := id q11
    refine any_store (i := 14) (by kernel_rfl) rfl rfl rfl rfl rfl rfl (cells := [.bool (ngB (x.num * ((y.den : Nat) : Int))), .slice A5 (digs 10000 ((x.num * ((y.den : Nat) : Int))).natAbs).length c5]) rfl BA5 rfl (by kernel_rfl) (one2 rfl rfl) fun w12 hg12 BN12 => ?_
    replace q11 := off q11 BA5 no_ints2 hg12
    replace q5 := off q5 BA5 no_ints2 hg12
    replace k0s := off k0s BA5 no_ints2 hg12
    replace k0d := off k0d BA5 no_ints2 hg12
    replace k0z : IsR w12 (.agg #[.bool (ngB (x).num), .slice A0 (digs 10000 (x).num.natAbs).length c0]) ((x).num) := ⟨_, rfl, k0s⟩
    replace k0 : IsP w12 (.agg #[.bool (ngB (x).num), .slice A0 (digs 10000 (x).num.natAbs).length c0, .slice D0 (digs 10000 (x).den).length e0]) (x) := ⟨_, _, rfl, k0s, k0d⟩
    replace B0 := B0.grown hg12 (by omega)
    replace k1s := off k1s BA5 no_ints2 hg12
    replace k1d := off k1d BA5 no_ints2 hg12
    replace k1z : IsR w12 (.agg #[.bool (ngB (y).num), .slice A1 (digs 10000 (y).num.natAbs).length c1]) ((y).num) := ⟨_, rfl, k1s⟩
    replace k1 : IsP w12 (.agg #[.bool (ngB (y).num), .slice A1 (digs 10000 (y).num.natAbs).length c1, .slice D1 (digs 10000 (y).den).length e1]) (y) := ⟨_, _, rfl, k1s, k1d⟩
    replace B1 := B1.grown hg12 (by omega)
    replace BR0 := BR0.grown hg12 (by omega)
    replace BA6 := BA6.grown hg12 (by omega)
    replace bb := bb.trans ((Below.refl _ _).grown hg12 bb.size (fun g hg => by injection hg with hg; omega))
    have hsz12 := bb.size
    have B5 : Blk w12 (g1_12) _ _ := BN12
    have k5s := q5
    have k5 : IsR w12 (.agg #[.bool (ngB (x.num * ((y.den : Nat) : Int))), .slice A5 (digs 10000 ((x.num * ((y.den : Nat) : Int))).natAbs).length c5]) ((x.num * ((y.den : Nat) : Int))) := ⟨_, rfl, k5s⟩
    refine any_store (i := 15) (by kernel_rfl) rfl rfl rfl rfl rfl rfl (cells := [.bool (ngB (y.num * ((x.den : Nat) : Int))), .slice A6 (digs 10000 ((y.num * ((x.den : Nat) : Int))).natAbs).length c6]) rfl BA6 rfl (by kernel_rfl) (one2 rfl rfl) fun w13 hg13 BN13 => ?_
    replace q11 := off q11 BA6 no_ints2 hg13
    replace k0s := off k0s BA6 no_ints2 hg13
    replace k0d := off k0d BA6 no_ints2 hg13
    replace k0z : IsR w13 (.agg #[.bool (ngB (x).num), .slice A0 (digs 10000 (x).num.natAbs).length c0]) ((x).num) := ⟨_, rfl, k0s⟩
    replace k0 : IsP w13 (.agg #[.bool (ngB (x).num), .slice A0 (digs 10000 (x).num.natAbs).length c0, .slice D0 (digs 10000 (x).den).length e0]) (x) := ⟨_, _, rfl, k0s, k0d⟩
    replace B0 := B0.grown hg13 (by omega)
    replace k1s := off k1s BA6 no_ints2 hg13
    replace k1d := off k1d BA6 no_ints2 hg13
    replace k1z : IsR w13 (.agg #[.bool (ngB (y).num), .slice A1 (digs 10000 (y).num.natAbs).length c1]) ((y).num) := ⟨_, rfl, k1s⟩
    replace k1 : IsP w13 (.agg #[.bool (ngB (y).num), .slice A1 (digs 10000 (y).num.natAbs).length c1, .slice D1 (digs 10000 (y).den).length e1]) (y) := ⟨_, _, rfl, k1s, k1d⟩
    replace B1 := B1.grown hg13 (by omega)
    replace BR0 := BR0.grown hg13 (by omega)
    replace k5s := off k5s BA6 no_ints2 hg13
    replace k5 : IsR w13 (.agg #[.bool (ngB (x.num * ((y.den : Nat) : Int))), .slice A5 (digs 10000 ((x.num * ((y.den : Nat) : Int))).natAbs).length c5]) ((x.num * ((y.den : Nat) : Int))) := ⟨_, rfl, k5s⟩
    replace B5 := B5.grown hg13 (by omega)
    replace bb := bb.trans ((Below.refl _ _).grown hg13 bb.size (fun g hg => by injection hg with hg; omega))
    have hsz13 := bb.size
    have B6 : Blk w13 (g1_13) _ _ := BN13
    have k6s := q11
    have k6 : IsR w13 (.agg #[.bool (ngB (y.num * ((x.den : Nat) : Int))), .slice A6 (digs 10000 ((y.num * ((x.den : Nat) : Int))).natAbs).length c6]) ((y.num * ((x.den : Nat) : Int))) := ⟨_, rfl, k6s⟩
    refine any_done (by kernel_rfl) ?_
    have sB := bb.size
    go_upto_region 2 with (fail)
    refine flow 9 [Pd.eq (.agg #[.bool (ngB (x.num * ((y.den : Nat) : Int))), .slice A5 (digs 10000 ((x.num * ((y.den : Nat) : Int))).natAbs).length c5]), Pd.eq (.agg #[.bool (ngB (y.num * ((x.den : Nat) : Int))), .slice A6 (digs 10000 ((y.num * ((x.den : Nat) : Int))).natAbs).length c6]), pr (((x.num * ((y.den : Nat) : Int)) + (y.num * ((x.den : Nat) : Int)))), Pd.eq (.pointer (some ⟨w.heap.size, 2, none⟩)), Pd.eq (.slice D0 (digs 10000 (x).den).length e0), Pd.eq (.pointer (some ⟨w.heap.size + 1, 2, none⟩)), Pd.eq (.slice D1 (digs 10000 (y).den).length e1), ps .i64 (digs 10000 (x.den * y.den)) w13.heap.size, ppf (x + y) w13.heap.size] (by kernel_rfl) (by kernel_rfl) ?ob2 ?done2
    case ob2 =>
      refine And.intro (ob_load rfl (wt_none rfl) (ev_far rfl rfl) (fun w2 hb => run_loadAll Tryz.underlying43 rfl (by kernel_rfl) (B5.drew.below hb)) (fun _ _ => rfl)) ?_
      refine And.intro (ob_load rfl (wt_none rfl) (ev_far rfl rfl) (fun w2 hb => run_loadAll Tryz.underlying43 rfl (by kernel_rfl) (B6.drew.below hb)) (fun _ _ => rfl)) ?_
      refine And.intro (ob_call2 rfl Tryz.func74 (by kernel_rfl) (wt_none rfl) (ev_dep (j := 0) (by kernel_rfl) rfl rfl) (ev_dep (j := 1) (by kernel_rfl) rfl rfl) (fun w2 u0 u1 hb h0 h1 => by obtain rfl := h0; obtain rfl := h1; exact (radd_any _ _ _ _ _ (k5.drew.below hb) (k6.drew.below hb) (Nat.le_trans lp (by decide)) (Nat.le_trans lq (by decide))).mono fun e w3 h => RetR.pd h)) ?_
      refine And.intro (ob_fieldAddr rfl (wt_none rfl) (ev_far rfl rfl) (fun _ => by kernel_rfl) (fun _ => rfl)) ?_
      refine And.intro (ob_load rfl (wt_none rfl) (ev_dep (j := 3) (by kernel_rfl) rfl rfl) (fun w2 hb => run_load1 Tryz.underlying41 rfl ((B0.drew.below hb).cell 2)) (fun _ _ => rfl)) ?_
      refine And.intro (ob_fieldAddr rfl (wt_none rfl) (ev_far rfl rfl) (fun _ => by kernel_rfl) (fun _ => rfl)) ?_
      refine And.intro (ob_load rfl (wt_none rfl) (ev_dep (j := 5) (by kernel_rfl) rfl rfl) (fun w2 hb => run_load1 Tryz.underlying41 rfl ((B1.drew.below hb).cell 2)) (fun _ _ => rfl)) ?_
      refine And.intro (ob_call2 rfl Tryz.func65 (by kernel_rfl) (wt_none rfl) (ev_dep (j := 4) (by kernel_rfl) rfl rfl) (ev_dep (j := 6) (by kernel_rfl) rfl rfl) (fun w2 u0 u1 hb h0 h1 => by obtain rfl := h0; obtain rfl := h1; exact (refMul_any _ _ x.den y.den _ (k0d.drew.below hb) (k1d.drew.below hb) (Nat.le_trans (dec_le _) (by have := hl.2; omega)) (Nat.le_trans (dec_le _) (by have := hl2.2; omega))).mono fun e w3 h => RetS.pd h hb.size)) ?_
      refine And.intro (ob_call2 rfl Tryz.func26 (by kernel_rfl) (wt_none rfl) (ev_dep (j := 2) (by kernel_rfl) rfl rfl) (ev_dep (j := 7) (by kernel_rfl) rfl rfl) (fun w2 u0 u1 hb h0 h1 => by exact (HA.out ▸ rlow_any _ _ _ (x.den * y.den) _ h0 h1.1 (Nat.mul_ne_zero x.den_nz y.den_nz) HLZ.out HLD.out).mono fun e w3 h => RetPF.pdf h hb.size)) ?_
      trivial
    case done2 =>
      refine fun w14 hb14 v0 h0 v1 h1 v2 h2 v3 h3 v4 h4 v5 h5 v6 h6 v7 h7 v8 h8 b hbf => ?_
      obtain rfl := h0; obtain rfl := h1; obtain rfl := h3; obtain rfl := h4; obtain rfl := h5; obtain rfl := h6
      have q2 := h2
      obtain ⟨q7, f7⟩ := h7
      obtain ⟨q8, f8⟩ := h8
      simp only [Act.put, List.setIfInBounds_toArray, List.set_cons_zero, List.set_cons_succ] at hbf
      subst hbf
      replace B0 := B0.below hb14
      replace k0s := k0s.below hb14
      replace k0d := k0d.below hb14
      replace k0z := k0z.below hb14
      replace k0 := k0.below hb14
      replace B1 := B1.below hb14
      replace k1s := k1s.below hb14
      replace k1d := k1d.below hb14
      replace k1z := k1z.below hb14
      replace k1 := k1.below hb14
      replace BR0 := BR0.below hb14
      replace B5 := B5.below hb14
      replace k5s := k5s.below hb14
      replace k5 := k5.below hb14
      replace B6 := B6.below hb14
      replace k6s := k6s.below hb14
      replace k6 := k6.below hb14
      replace bb := bb.trans (hb14.mono bb.size)
      have hsz14 := bb.size
      have s_7 := sB
      have s_8 := sB
      obtain ⟨u8, t8, rfl, q8, d8⟩ := q8
      obtain ⟨A9, c9, rfl, _⟩ := id q8
      obtain ⟨D9, e9, rfl, _⟩ := id d8
      refine any_store (i := 9) (by kernel_rfl) rfl rfl rfl rfl rfl rfl (cells := [.bool (ngB (x + y).num), .slice A9 (digs 10000 (x + y).num.natAbs).length c9, .slice D9 (digs 10000 (x + y).den).length e9]) rfl BR0 rfl (by kernel_rfl) (one3 rfl rfl rfl) fun w9 hg9 B9 => ?_
      have k9 := off q8 BR0 no_ints3 hg9
      have d9 := off d8 BR0 no_ints3 hg9
      have f9 := f8.mono (show w.heap.size ≤ _ from s_8)
      have bb9 := bb.trans ((Below.refl _ _).grown hg9 bb.size (fun g hg => by injection hg with hg; omega))
      obtain ⟨C0, C1, C2, _, _, _⟩ := three B9
      refine any_done (by kernel_rfl) ?_
      go_wp2
      exact bodyPost_ret (v := .agg #[.bool (ngB (x + y).num), .slice A9 (digs 10000 (x + y).num.natAbs).length c9, .slice D9 (digs 10000 (x + y).den).length e9]) (by simp [results, Tryz.results50, go_sem, C0, C1, C2]) rfl ⟨_, rfl, ⟨_, _, rfl, k9, d9⟩, f9, bb9⟩
set_option maxHeartbeats 1600000 in
set_option maxRecDepth 100000 in
theorem qsub_any (a0 : Value) (x : Rat) (a1 : Value) (y : Rat) (w : World) (h0 : IsP w a0 x) (h1 : IsP w a1 y) (hl : lenQ x 5000) (hl2 : lenQ y 5000) :
    Calls Tryz.prog 39 #[a0, a1] w (RetPF (x - y) w) := by
  obtain ⟨u0, t0, rfl, s0, r0⟩ := h0
  obtain ⟨A0, c0, rfl, _⟩ := id s0
  obtain ⟨D0, e0, rfl, _⟩ := id r0
  obtain ⟨u1, t1, rfl, s1, r1⟩ := h1
  obtain ⟨A1, c1, rfl, _⟩ := id s1
  obtain ⟨D1, e1, rfl, _⟩ := id r1
  have HS : Hid (x + -y = x - y) := (Rat.sub_eq_add_neg x y).symm
  go_enter Tryz.func39, Tryz.ntmps39
  go_upto_region 1 with (fail)
  obtain ⟨wx, hwx, bb, B0, B1, BR0, hsz⟩ := vars3 w 45 45 45 #[.bool (ngB (x).num), .slice A0 (digs 10000 (x).num.natAbs).length c0, .slice D0 (digs 10000 (x).den).length e0] #[.bool (ngB (y).num), .slice A1 (digs 10000 (y).num.natAbs).length c1, .slice D1 (digs 10000 (y).den).length e1] #[.bool false, .slice none 0 0, .slice none 0 0]
  rw [hwx]
  clear hwx
  have k0s := s0.below bb
  have k0d := r0.below bb
  have k0z : IsR wx (.agg #[.bool (ngB (x).num), .slice A0 (digs 10000 (x).num.natAbs).length c0]) (x).num := ⟨_, rfl, k0s⟩
  have k0 : IsP wx (.agg #[.bool (ngB (x).num), .slice A0 (digs 10000 (x).num.natAbs).length c0, .slice D0 (digs 10000 (x).den).length e0]) (x) := ⟨_, _, rfl, k0s, k0d⟩
  have k1s := s1.below bb
  have k1d := r1.below bb
  have k1z : IsR wx (.agg #[.bool (ngB (y).num), .slice A1 (digs 10000 (y).num.natAbs).length c1]) (y).num := ⟨_, rfl, k1s⟩
  have k1 : IsP wx (.agg #[.bool (ngB (y).num), .slice A1 (digs 10000 (y).num.natAbs).length c1, .slice D1 (digs 10000 (y).den).length e1]) (y) := ⟨_, _, rfl, k1s, k1d⟩
  have hsz0 := bb.size
  have sB := bb.size
  refine flow 4 [Pd.eq (.agg #[.bool (ngB (x).num), .slice A0 (digs 10000 (x).num.natAbs).length c0, .slice D0 (digs 10000 (x).den).length e0]), Pd.eq (.agg #[.bool (ngB (y).num), .slice A1 (digs 10000 (y).num.natAbs).length c1, .slice D1 (digs 10000 (y).den).length e1]), pp (-y), ppf (x - y) wx.heap.size] (by kernel_rfl) (by kernel_rfl) ?ob3 ?done3
  case ob3 =>
    refine And.intro (ob_load rfl (wt_none rfl) (ev_far rfl rfl) (fun w2 hb => run_loadAll Tryz.underlying45 rfl (by kernel_rfl) (B0.drew.below hb)) (fun _ _ => rfl)) ?_
    refine And.intro (ob_load rfl (wt_none rfl) (ev_far rfl rfl) (fun w2 hb => run_loadAll Tryz.underlying45 rfl (by kernel_rfl) (B1.drew.below hb)) (fun _ _ => rfl)) ?_
    refine And.intro (ob_call1 rfl Tryz.func69 (by kernel_rfl) (wt_none rfl) (ev_dep (j := 1) (by kernel_rfl) rfl rfl) (fun w2 u0 hb h0 => by obtain rfl := h0; exact (qneg_any _ _ _ (k1.drew.below hb)).mono fun e w3 h => RetP.pd h)) ?_
    refine And.intro (ob_call2 rfl Tryz.func50 (by kernel_rfl) (wt_none rfl) (ev_dep (j := 0) (by kernel_rfl) rfl rfl) (ev_dep (j := 2) (by kernel_rfl) rfl rfl) (fun w2 u0 u1 hb h0 h1 => by obtain rfl := h0; exact (HS.out ▸ qadd_any _ x _ (-y) _ (k0.drew.below hb) h1 hl (lenQ_neg hl2)).mono fun e w3 h => RetPF.pdf h hb.size)) ?_
    trivial
  case done3 =>
    refine fun w11 hb11 v0 h0 v1 h1 v2 h2 v3 h3 b hbf => ?_
    obtain rfl := h0; obtain rfl := h1
    have q2 := h2
    obtain ⟨q3, f3⟩ := h3
    simp only [Act.put, List.setIfInBounds_toArray, List.set_cons_zero, List.set_cons_succ] at hbf
    subst hbf
    replace B0 := B0.below hb11
    replace k0s := k0s.below hb11
    replace k0d := k0d.below hb11
    replace k0z := k0z.below hb11
    replace k0 := k0.below hb11
    replace B1 := B1.below hb11
    replace k1s := k1s.below hb11
    replace k1d := k1d.below hb11
    replace k1z := k1z.below hb11
    replace k1 := k1.below hb11
    replace BR0 := BR0.below hb11
    replace bb := bb.trans (hb11.mono bb.size)
    have hsz11 := bb.size
    have s_3 := sB
    obtain ⟨u3, t3, rfl, q3, d3⟩ := q3
    obtain ⟨A9, c9, rfl, _⟩ := id q3
    obtain ⟨D9, e9, rfl, _⟩ := id d3
    refine any_store (i := 4) (by kernel_rfl) rfl rfl rfl rfl rfl rfl (cells := [.bool (ngB (x - y).num), .slice A9 (digs 10000 (x - y).num.natAbs).length c9, .slice D9 (digs 10000 (x - y).den).length e9]) rfl BR0 rfl (by kernel_rfl) (one3 rfl rfl rfl) fun w9 hg9 B9 => ?_
    have k9 := off q3 BR0 no_ints3 hg9
    have d9 := off d3 BR0 no_ints3 hg9
    have f9 := f3.mono (show w.heap.size ≤ _ from s_3)
    have bb9 := bb.trans ((Below.refl _ _).grown hg9 bb.size (fun g hg => by injection hg with hg; omega))
    obtain ⟨C0, C1, C2, _, _, _⟩ := three B9
    refine any_done (by kernel_rfl) ?_
    go_wp2
    exact bodyPost_ret (v := .agg #[.bool (ngB (x - y).num), .slice A9 (digs 10000 (x - y).num.natAbs).length c9, .slice D9 (digs 10000 (x - y).den).length e9]) (by simp [results, Tryz.results39, go_sem, C0, C1, C2]) rfl ⟨_, rfl, ⟨_, _, rfl, k9, d9⟩, f9, bb9⟩
set_option maxHeartbeats 1600000 in
set_option maxRecDepth 100000 in
theorem qsign_any (a0 : Value) (q : Rat) (t : Int) (w : World) (h0 : IsP w a0 q) (ht : t = ordz q.num 0) :
    Calls Tryz.prog 43 #[a0] w (RetV (.int .i64 t) w) := by
  have HT := Lib.hid ht
  clear ht
  obtain ⟨u0, t0, rfl, s0, r0⟩ := h0
  obtain ⟨A0, c0, rfl, _⟩ := id s0
  obtain ⟨D0, e0, rfl, _⟩ := id r0
  go_enter Tryz.func43, Tryz.ntmps43
  go_upto_region 1 with (fail)
  obtain ⟨wx, hwx, bb, B0, hsz⟩ := vars1 w 45 #[.bool (ngB (q).num), .slice A0 (digs 10000 (q).num.natAbs).length c0, .slice D0 (digs 10000 (q).den).length e0]
  rw [hwx]
  clear hwx
  have k0s := s0.below bb
  have k0d := r0.below bb
  have k0z : IsR wx (.agg #[.bool (ngB (q).num), .slice A0 (digs 10000 (q).num.natAbs).length c0]) (q).num := ⟨_, rfl, k0s⟩
  have k0 : IsP wx (.agg #[.bool (ngB (q).num), .slice A0 (digs 10000 (q).num.natAbs).length c0, .slice D0 (digs 10000 (q).den).length e0]) (q) := ⟨_, _, rfl, k0s, k0d⟩
  have hsz0 := bb.size
  have sB := bb.size
  refine flowp 4 [Pd.eq (.pointer (some ⟨w.heap.size, 0, none⟩)), Pd.eq (.agg #[.bool (ngB (q).num), .slice A0 (digs 10000 (q).num.natAbs).length c0]), Pd.eq (.int .i64 t), Pd.eq (.int .i64 t)] (by kernel_rfl) ?ob4 ?done4
  case ob4 =>
    refine And.intro (ob_fieldAddr rfl (wt_none rfl) (ev_far rfl rfl) (fun _ => by kernel_rfl) (fun _ => rfl)) ?_
    refine And.intro (ob_load rfl (wt_none rfl) (ev_dep (j := 0) (by kernel_rfl) rfl rfl) (fun w2 hb => run_loadPart Tryz.underlying43 rfl (by kernel_rfl) (B0.below hb) rfl) (fun _ _ => rfl)) ?_
    refine And.intro (ob_call1 rfl Tryz.func71 (by kernel_rfl) (wt_none rfl) (ev_dep (j := 1) (by kernel_rfl) rfl rfl) (fun w2 u0 hb h0 => by obtain rfl := h0; exact (rsign_any _ _ t _ (k0z.below hb) HT.out).mono fun e w3 h => RetV.pd h)) ?_
    refine And.intro (ob_assign rfl (wt_none rfl) (ev_dep (j := 2) (by kernel_rfl) rfl rfl) (fun _ _ h => h)) ?_
    trivial
  case done4 =>
    refine fun w11 hb11 v0 h0 v1 h1 v2 h2 v3 h3 b hbf => ?_
    obtain rfl := h0; obtain rfl := h1; obtain rfl := h2; obtain rfl := h3
    simp only [Act.put, List.setIfInBounds_toArray, List.set_cons_zero, List.set_cons_succ] at hbf
    subst hbf
    replace B0 := B0.below hb11
    replace k0s := k0s.below hb11
    replace k0d := k0d.below hb11
    replace k0z := k0z.below hb11
    replace k0 := k0.below hb11
    replace bb := bb.trans (hb11.mono bb.size)
    have hsz11 := bb.size
    refine ops_done ?_
    go_wp2
    go_ret
    exact ⟨rfl, bb⟩
set_option maxHeartbeats 1600000 in
set_option maxRecDepth 100000 in
theorem qcmp_any (a0 : Value) (x : Rat) (a1 : Value) (y : Rat) (t : Int) (w : World) (h0 : IsP w a0 x) (h1 : IsP w a1 y) (hl : lenQ x 5000) (hl2 : lenQ y 5000) (ht : t = ordq x y) :
    Calls Tryz.prog 19 #[a0, a1] w (RetV (.int .i64 t) w) := by
  have HT : Hid (t = ordz (x - y).num 0) := by show _ = _; rw [ht, ordq_sub]
  clear ht
  obtain ⟨u0, t0, rfl, s0, r0⟩ := h0
  obtain ⟨A0, c0, rfl, _⟩ := id s0
  obtain ⟨D0, e0, rfl, _⟩ := id r0
  obtain ⟨u1, t1, rfl, s1, r1⟩ := h1
  obtain ⟨A1, c1, rfl, _⟩ := id s1
  obtain ⟨D1, e1, rfl, _⟩ := id r1
  go_enter Tryz.func19, Tryz.ntmps19
  go_upto_region 1 with (fail)
  obtain ⟨wx, hwx, bb, B0, B1, hsz⟩ := vars2 w 45 45 #[.bool (ngB (x).num), .slice A0 (digs 10000 (x).num.natAbs).length c0, .slice D0 (digs 10000 (x).den).length e0] #[.bool (ngB (y).num), .slice A1 (digs 10000 (y).num.natAbs).length c1, .slice D1 (digs 10000 (y).den).length e1]
  rw [hwx]
  clear hwx
  have k0s := s0.below bb
  have k0d := r0.below bb
  have k0z : IsR wx (.agg #[.bool (ngB (x).num), .slice A0 (digs 10000 (x).num.natAbs).length c0]) (x).num := ⟨_, rfl, k0s⟩
  have k0 : IsP wx (.agg #[.bool (ngB (x).num), .slice A0 (digs 10000 (x).num.natAbs).length c0, .slice D0 (digs 10000 (x).den).length e0]) (x) := ⟨_, _, rfl, k0s, k0d⟩
  have k1s := s1.below bb
  have k1d := r1.below bb
  have k1z : IsR wx (.agg #[.bool (ngB (y).num), .slice A1 (digs 10000 (y).num.natAbs).length c1]) (y).num := ⟨_, rfl, k1s⟩
  have k1 : IsP wx (.agg #[.bool (ngB (y).num), .slice A1 (digs 10000 (y).num.natAbs).length c1, .slice D1 (digs 10000 (y).den).length e1]) (y) := ⟨_, _, rfl, k1s, k1d⟩
  have hsz0 := bb.size
  have sB := bb.size
  refine flowp 5 [Pd.eq (.agg #[.bool (ngB (x).num), .slice A0 (digs 10000 (x).num.natAbs).length c0, .slice D0 (digs 10000 (x).den).length e0]), Pd.eq (.agg #[.bool (ngB (y).num), .slice A1 (digs 10000 (y).num.natAbs).length c1, .slice D1 (digs 10000 (y).den).length e1]), pp (x - y), Pd.eq (.int .i64 t), Pd.eq (.int .i64 t)] (by kernel_rfl) ?ob5 ?done5
  case ob5 =>
    refine And.intro (ob_load rfl (wt_none rfl) (ev_far rfl rfl) (fun w2 hb => run_loadAll Tryz.underlying45 rfl (by kernel_rfl) (B0.below hb)) (fun _ _ => rfl)) ?_
    refine And.intro (ob_load rfl (wt_none rfl) (ev_far rfl rfl) (fun w2 hb => run_loadAll Tryz.underlying45 rfl (by kernel_rfl) (B1.below hb)) (fun _ _ => rfl)) ?_
    refine And.intro (ob_call2 rfl Tryz.func39 (by kernel_rfl) (wt_none rfl) (ev_dep (j := 0) (by kernel_rfl) rfl rfl) (ev_dep (j := 1) (by kernel_rfl) rfl rfl) (fun w2 u0 u1 hb h0 h1 => by obtain rfl := h0; obtain rfl := h1; exact (qsub_any _ x _ y _ (k0.below hb) (k1.below hb) hl hl2).mono fun e w3 h => RetPF.pd h)) ?_
    refine And.intro (ob_call1 rfl Tryz.func43 (by kernel_rfl) (wt_none rfl) (ev_dep (j := 2) (by kernel_rfl) rfl rfl) (fun w2 u0 hb h0 => by exact (qsign_any _ (x - y) t _ h0 HT.out).mono fun e w3 h => RetV.pd h)) ?_
    refine And.intro (ob_assign rfl (wt_none rfl) (ev_dep (j := 3) (by kernel_rfl) rfl rfl) (fun _ _ h => h)) ?_
    trivial
  case done5 =>
    refine fun w11 hb11 v0 h0 v1 h1 v2 h2 v3 h3 v4 h4 b hbf => ?_
    obtain rfl := h0; obtain rfl := h1; obtain rfl := h3; obtain rfl := h4
    have q2 := h2
    simp only [Act.put, List.setIfInBounds_toArray, List.set_cons_zero, List.set_cons_succ] at hbf
    subst hbf
    replace B0 := B0.below hb11
    replace k0s := k0s.below hb11
    replace k0d := k0d.below hb11
    replace k0z := k0z.below hb11
    replace k0 := k0.below hb11
    replace B1 := B1.below hb11
    replace k1s := k1s.below hb11
    replace k1d := k1d.below hb11
    replace k1z := k1z.below hb11
    replace k1 := k1.below hb11
    replace bb := bb.trans (hb11.mono bb.size)
    have hsz11 := bb.size
    refine ops_done ?_
    go_wp2
    go_ret
    exact ⟨rfl, bb⟩
/-- A variable that holds this fraction (of the document's own, of the program's). -/
def HoldP (w : World) (g : Nat) (q : Rat) : Prop := ∃ u t, Blk w g 45 #[.bool (ngB q.num), u, t] ∧ IsS w .i64 u (digs 10000 q.num.natAbs) ∧ IsS w .i64 t (digs 10000 q.den)
def HoldQ (w : World) (g : Nat) (q : Rat) : Prop := ∃ u t, Blk w g 28 #[.bool (ngB q.num), u, t] ∧ IsS w .u64 u (digs 4294967296 q.num.natAbs) ∧ IsS w .u64 t (digs 4294967296 q.den)
theorem HoldP.below {w w' : World} {g : Nat} {q : Rat} (h : HoldP w g q) (hb : Below w.heap.size w w') : HoldP w' g q := by
  obtain ⟨u, t, h1, h2, h3⟩ := h
  exact ⟨u, t, h1.below hb, h2.below hb, h3.below hb⟩
theorem HoldQ.below {w w' : World} {g : Nat} {q : Rat} (h : HoldQ w g q) (hb : Below w.heap.size w w') : HoldQ w' g q := by
  obtain ⟨u, t, h1, h2, h3⟩ := h
  exact ⟨u, t, h1.below hb, h2.below hb, h3.below hb⟩
/-- The sum, and the product, of these. -/
def sumq (l : List Rat) : Rat := l.foldl (· + ·) 0
theorem sumq_snoc (l : List Rat) (q : Rat) : sumq (l ++ [q]) = sumq l + q := by simp [sumq]
theorem take_snoc {l : List Rat} {k : Nat} {q : Rat} (h : l[k]? = some q) : l.take (k + 1) = l.take k ++ [q] := by rw [List.take_add_one, h]; rfl
theorem lenQ_sumq {l : List Rat} {m : Nat} (h : ∀ q ∈ l, lenQ q m) : lenQ (sumq l) ((m + 1) * l.length + 1) := by
  have key : ∀ k, k ≤ l.length → lenQ (sumq (l.take k)) ((m + 1) * k + 1) := by
    intro k
    induction k with
    | zero => intro _; rw [List.take_zero]; exact ⟨by show lenZ 0 ≤ _; rw [lenZ_zero]; omega, digs_len_le (k := 1) (by omega) (by decide +kernel)⟩
    | succ k ih =>
      intro hk
      have hq : l[k]? = some (l[k]'hk) := List.getElem?_eq_getElem hk
      rw [take_snoc hq, sumq_snoc]
      refine (lenQ_add2 (ih (by omega)) (h _ (List.getElem_mem hk))).mono ?_
      rw [Nat.mul_succ]; omega
  have := key l.length (Nat.le_refl _)
  rwa [List.take_length] at this
/-- All from 0 to 1, and their sum 1. -/
def wholeQ (l : List Rat) : Prop := (∀ q ∈ l, ¬ q < 0 ∧ ¬ 1 < q) ∧ sumq l = 1
instance (l : List Rat) : Decidable (wholeQ l) := by unfold wholeQ; infer_instance
theorem ordq_pos {x y : Rat} : 0 < ordq x y ↔ y < x := by
  unfold ordq
  by_cases a : x < y
  · rw [if_pos a]
    have := Rat.not_lt.2 (Rat.le_of_lt a)
    exact ⟨fun h => by omega, fun h => absurd h this⟩
  · rw [if_neg a]
    by_cases b : y < x
    · rw [if_pos b]; exact ⟨fun _ => b, fun _ => by omega⟩
    · rw [if_neg b]; exact ⟨fun h => by omega, fun h => absurd h b⟩
/-- A fraction of the document's own and an error's number; nothing and one. -/
def RetPE (q : Rat) (n : Int) (w : World) (e : Ending) (w' : World) : Prop := ∃ v, e = .returned (.tuple #[v, .int .i64 n]) ∧ IsP w' v q ∧ Below w.heap.size w w'
def ppn (q : Rat) (n : Int) : Pd := ⟨fun w t => ∃ v, t = .tuple #[v, .int .i64 n] ∧ IsP w v q, fun h hb => by obtain ⟨v, e, h1⟩ := h; exact ⟨v, e, h1.below hb⟩⟩
theorem RetPE.pd {q : Rat} {n : Int} {w : World} {e : Ending} {w' : World} (h : RetPE q n w e w') : RetPd (ppn q n) w e w' := by
  obtain ⟨v, h1, h2, h3⟩ := h
  exact ⟨_, h1, ⟨v, rfl, h2⟩, h3⟩
/-- The value is a slice of these ints. -/
def IsI (w : World) (v : Value) (l : List Int) : Prop := ∃ A c, v = .slice A l.length c ∧ l.length ≤ c ∧ c ≤ maxLen ∧ (∀ z ∈ l, -9223372036854775808 ≤ z ∧ z ≤ 9223372036854775807) ∧ ∀ (i : Nat) (z : Int), l[i]? = some z → ∃ ad, A = some ad ∧ w.cell? (ad.add i) = some (.int .i64 z)
theorem IsI.below {w w' : World} {v : Value} {l : List Int} (h : IsI w v l) (hb : Below w.heap.size w w') : IsI w' v l := by
  obtain ⟨A, c, e, h1, h2, hr, h3⟩ := h
  refine ⟨A, c, e, h1, h2, hr, fun i z hz => ?_⟩
  obtain ⟨ad, e2, c0⟩ := h3 i z hz
  exact ⟨ad, e2, (hb.cell (World.block_lt_of_cell? w _ c0)).trans c0⟩
theorem IsI.shape {w : World} {v : Value} {l : List Int} (h : IsI w v l) : ∃ A c, v = .slice A l.length c ∧ l.length ≤ c ∧ c ≤ maxLen := by
  obtain ⟨A, c, e, h1, h2, _⟩ := h
  exact ⟨A, c, e, h1, h2⟩
theorem IsI.at_ {w : World} {A : Option Addr} {n c : Nat} {l : List Int} {i : Nat} {z : Int} (h : IsI w (.slice A n c) l) (hz : l[i]? = some z) : ∃ ad, A = some ad ∧ i < n ∧ w.cell? (ad.add i) = some (.int .i64 z) ∧ -9223372036854775808 ≤ z ∧ z ≤ 9223372036854775807 := by
  obtain ⟨A', c', e, h1, h2, hr, h3⟩ := h
  injection e with e1 e2 e3
  subst e1; subst e2; subst e3
  obtain ⟨ad, e4, c0⟩ := h3 i z hz
  have := hr z (List.mem_of_getElem? hz)
  exact ⟨ad, e4, (List.getElem?_eq_some_iff.1 hz).1, c0, this.1, this.2⟩
/-- Fractions of the document's own, and an error's number. -/
def RetLE (l : List Rat) (n : Int) (w : World) (e : Ending) (w' : World) : Prop := ∃ V, e = .returned (.tuple #[V, .int .i64 n]) ∧ SlF .i64 10000 w' V (if n = 0 then l else []) ∧ Below w.heap.size w w'
theorem slF_nil (k : IntKind) (B : Nat) (w : World) : SlF k B w (.slice none 0 0) [] := ⟨[], rfl, ⟨none, 0, rfl, by simp, by unfold maxLen; omega, fun i p hp => by simp at hp⟩, fun p hp => by cases hp⟩
theorem index1_any {P : Program} {t e : TypeId} (hu : P.underlying t = some (.slice e)) (hs : (P.info? e).map (·.size) = some 1) (ad : Addr) {n c k : Nat} (hk : k < n) (w : World) : (Instr.indexAt t (.slice (some ad) n c) (.int .i64 (k : Int))).run P w = .ok (.pointer (some (ad.add k))) w := by
  cases hq : P.info? e with
  | none => simp [hq] at hs
  | some inf =>
    have hsz : inf.size = 1 := by simpa [hq] using hs
    simp [Instr.indexAt, asIntOf, go_sem, run_underlying hu, sizeOf, typeInfo, hq, hsz, hk]
/-- The lesser, and the greater one. -/
def minq (a b : Rat) : Rat := if b < a then b else a
def maxq (a b : Rat) : Rat := if a < b then b else a
def lowq (a : Rat) (l : List Rat) : Rat := l.foldl minq a
def higq (a : Rat) (l : List Rat) : Rat := l.foldl maxq a
/-- The least, and the greatest one of these (0 of none). -/
def leastq : List Rat → Rat
  | [] => 0
  | q :: l => lowq q l
def greatq : List Rat → Rat
  | [] => 0
  | q :: l => higq q l
theorem minq_le (a b : Rat) : minq a b ≤ a ∧ minq a b ≤ b := by unfold minq; split <;> grind
theorem le_maxq (a b : Rat) : a ≤ maxq a b ∧ b ≤ maxq a b := by unfold maxq; split <;> grind
theorem minq_or (a b : Rat) : minq a b = a ∨ minq a b = b := by unfold minq; split <;> simp
theorem maxq_or (a b : Rat) : maxq a b = a ∨ maxq a b = b := by unfold maxq; split <;> simp
theorem lowq_le (l : List Rat) : ∀ a, lowq a l ≤ a ∧ ∀ q ∈ l, lowq a l ≤ q := by
  induction l with
  | nil => intro a; exact ⟨Rat.le_refl, fun q h => by cases h⟩
  | cons b l ih =>
    intro a
    have h := ih (minq a b)
    have h2 := minq_le a b
    have e : lowq a (b :: l) = lowq (minq a b) l := rfl
    rw [e]
    refine ⟨Rat.le_trans h.1 h2.1, fun q hq => ?_⟩
    rcases List.mem_cons.1 hq with rfl | hq
    · exact Rat.le_trans h.1 h2.2
    · exact h.2 q hq
theorem le_higq (l : List Rat) : ∀ a, a ≤ higq a l ∧ ∀ q ∈ l, q ≤ higq a l := by
  induction l with
  | nil => intro a; exact ⟨Rat.le_refl, fun q h => by cases h⟩
  | cons b l ih =>
    intro a
    have h := ih (maxq a b)
    have h2 := le_maxq a b
    have e : higq a (b :: l) = higq (maxq a b) l := rfl
    rw [e]
    refine ⟨Rat.le_trans h2.1 h.1, fun q hq => ?_⟩
    rcases List.mem_cons.1 hq with rfl | hq
    · exact Rat.le_trans h2.2 h.1
    · exact h.2 q hq
theorem lowq_mem (l : List Rat) : ∀ a, lowq a l ∈ a :: l := by
  induction l with
  | nil => intro a; simp [lowq]
  | cons b l ih =>
    intro a
    have h := ih (minq a b)
    have e : lowq a (b :: l) = lowq (minq a b) l := rfl
    rw [e]
    rcases List.mem_cons.1 h with h | h
    · rw [h]
      rcases minq_or a b with k | k <;> rw [k] <;> simp
    · simp [h]
theorem higq_mem (l : List Rat) : ∀ a, higq a l ∈ a :: l := by
  induction l with
  | nil => intro a; simp [higq]
  | cons b l ih =>
    intro a
    have h := ih (maxq a b)
    have e : higq a (b :: l) = higq (maxq a b) l := rfl
    rw [e]
    rcases List.mem_cons.1 h with h | h
    · rw [h]
      rcases maxq_or a b with k | k <;> rw [k] <;> simp
    · simp [h]
theorem leastq_mem {l : List Rat} (h : l ≠ []) : leastq l ∈ l := by
  cases l with
  | nil => exact absurd rfl h
  | cons a l => exact lowq_mem l a
theorem greatq_mem {l : List Rat} (h : l ≠ []) : greatq l ∈ l := by
  cases l with
  | nil => exact absurd rfl h
  | cons a l => exact higq_mem l a
theorem leastq_le {l : List Rat} {q : Rat} (h : q ∈ l) : leastq l ≤ q := by
  cases l with
  | nil => cases h
  | cons a l =>
    rcases List.mem_cons.1 h with rfl | h
    · exact (lowq_le l _).1
    · exact (lowq_le l a).2 q h
theorem le_greatq {l : List Rat} {q : Rat} (h : q ∈ l) : q ≤ greatq l := by
  cases l with
  | nil => cases h
  | cons a l =>
    rcases List.mem_cons.1 h with rfl | h
    · exact (le_higq l _).1
    · exact (le_higq l a).2 q h
theorem leastq_eq {l : List Rat} {x : Rat} (hx : x ∈ l) (h : ∀ q ∈ l, x ≤ q) : leastq l = x :=
  Rat.le_antisymm (leastq_le hx) (h _ (leastq_mem (List.ne_nil_of_mem hx)))
theorem greatq_eq {l : List Rat} {x : Rat} (hx : x ∈ l) (h : ∀ q ∈ l, q ≤ x) : greatq l = x :=
  Rat.le_antisymm (h _ (greatq_mem (List.ne_nil_of_mem hx))) (le_greatq hx)
/-- All of these, rising. -/
def Sorts (ss qs : List Rat) : Prop := ss.Perm qs ∧ ss.Pairwise (· ≤ ·)
theorem Sorts.len {ss qs : List Rat} (h : Sorts ss qs) : ss.length = qs.length := h.1.length_eq
theorem Sorts.le {ss qs : List Rat} (h : Sorts ss qs) {i k : Nat} {x y : Rat} (hx : ss[i]? = some x) (hy : ss[k]? = some y) (hik : i < k) : x ≤ y := by
  obtain ⟨h1, rfl⟩ := List.getElem?_eq_some_iff.1 hx
  obtain ⟨h2, rfl⟩ := List.getElem?_eq_some_iff.1 hy
  exact List.pairwise_iff_getElem.1 h.2 i k h1 h2 hik
theorem Sorts.first {ss qs : List Rat} (h : Sorts ss qs) {x : Rat} (hx : ss[0]? = some x) : leastq qs = x := by
  refine leastq_eq (h.1.mem_iff.1 (List.mem_of_getElem? hx)) fun q hq => ?_
  obtain ⟨k, hk⟩ := List.mem_iff_getElem?.1 (h.1.mem_iff.2 hq)
  rcases Nat.eq_zero_or_pos k with rfl | h0
  · rw [hx] at hk; injection hk with hk; rw [hk]; exact Rat.le_refl
  · exact h.le hx hk h0
theorem Sorts.last {ss qs : List Rat} (h : Sorts ss qs) {x : Rat} {n : Nat} (hn : n + 1 = ss.length) (hx : ss[n]? = some x) : greatq qs = x := by
  refine greatq_eq (h.1.mem_iff.1 (List.mem_of_getElem? hx)) fun q hq => ?_
  obtain ⟨k, hk⟩ := List.mem_iff_getElem?.1 (h.1.mem_iff.2 hq)
  have hk2 : k < ss.length := (List.getElem?_eq_some_iff.1 hk).1
  rcases Nat.lt_or_ge k n with h0 | h0
  · exact h.le hk hx h0
  · obtain rfl : k = n := by omega
    rw [hx] at hk; injection hk with hk; rw [hk]; exact Rat.le_refl
theorem Sorts.count {ss qs : List Rat} (h : Sorts ss qs) (q : Rat) : ss.count q = qs.count q := h.1.count_eq q
/-- A slice of these. -/
def RetSl (qs : List Rat) (w : World) (e : Ending) (w' : World) : Prop := ∃ V, e = .returned V ∧ SlF .u64 4294967296 w' V qs ∧ Below w.heap.size w w'
/-- Two fractions, and an error's number. -/
def RetQ2 (x y : Rat) (n : Int) (w : World) (e : Ending) (w' : World) : Prop := ∃ v u, e = .returned (.tuple #[v, u, .int .i64 n]) ∧ IsQ w' v x ∧ IsQ w' u y ∧ Below w.heap.size w w'
def pq2 (x y : Rat) (n : Int) : Pd := ⟨fun w t => ∃ v u, t = .tuple #[v, u, .int .i64 n] ∧ IsQ w v x ∧ IsQ w u y, fun h hb => by obtain ⟨v, u, e, h1, h2⟩ := h; exact ⟨v, u, e, h1.below hb, h2.below hb⟩⟩
theorem RetQ2.pd {x y : Rat} {n : Int} {w : World} {e : Ending} {w' : World} (h : RetQ2 x y n w e w') : RetPd (pq2 x y n) w e w' := by
  obtain ⟨v, u, h1, h2, h3, h4⟩ := h
  exact ⟨_, h1, ⟨v, u, rfl, h2, h3⟩, h4⟩
theorem SlF.at2 {k : IntKind} {B : Nat} {w : World} {g o n c : Nat} {qs : List Rat} {i : Nat} {q : Rat} (h : SlF k B w (.slice (some ⟨g, o, none⟩) n c) qs) (hq : qs[i]? = some q) : ∃ u t, i < n ∧ w.cell? ⟨g, o + i * 3, none⟩ = some (.bool (ngB q.num)) ∧ w.cell? ⟨g, o + i * 3 + 1, none⟩ = some u ∧ w.cell? ⟨g, o + i * 3 + 2, none⟩ = some t ∧ IsS w k u (digs B q.num.natAbs) ∧ IsS w k t (digs B q.den) := by
  obtain ⟨g', o', u, t, hA, h1, h2, h3, h4, h5, h6⟩ := h.at_ hq
  injection hA with hA
  injection hA with e1 e2
  subst e1
  subst e2
  exact ⟨u, t, h1, h2, h3, h4, h5, h6⟩
/-- A row that holds something has a place, and lies in what there is. -/
theorem SlF.place {k : IntKind} {B : Nat} {w : World} {v : Value} {qs : List Rat} (h : SlF k B w v qs) (hne : qs ≠ []) : ∃ g o c, v = .slice (some ⟨g, o, none⟩) qs.length c ∧ g < w.heap.size ∧ qs.length ≤ c ∧ c ≤ maxLen := by
  obtain ⟨A, c, rfl, h1, h2⟩ := h.shape
  cases qs with
  | nil => exact absurd rfl hne
  | cons q qs =>
    obtain ⟨g, o, u, t, rfl, _, hc, _⟩ := h.at_ (i := 0) (q := q) rfl
    exact ⟨g, o, c, rfl, World.block_lt_of_cell? w _ hc, h1, h2⟩
/-- A row of nothing lies nowhere. -/
theorem SlF.any {k : IntKind} {B : Nat} {w w' : World} {v : Value} (h : SlF k B w v []) : SlF k B w' v [] := by
  obtain ⟨ps, hp, ⟨A, c, h1, h2, h3, _⟩, _⟩ := h
  obtain rfl : ps = [] := List.map_eq_nil_iff.1 hp
  exact ⟨[], rfl, ⟨A, c, h1, h2, h3, fun i p hp => by simp at hp⟩, fun p hp => by cases hp⟩
theorem SlF.lt {k : IntKind} {B : Nat} {w : World} {g o n c : Nat} {qs : List Rat} (h : SlF k B w (.slice (some ⟨g, o, none⟩) n c) qs) (hne : qs ≠ []) : g < w.heap.size := by
  obtain ⟨g', o', c', hv, h1, _⟩ := h.place hne
  injection hv with hA
  injection hA with hA
  injection hA with e1
  rw [e1]; exact h1
theorem SlF.take {k : IntKind} {B : Nat} {w : World} {A : Option Addr} {n c : Nat} {qs : List Rat} (h : SlF k B w (.slice A n c) qs) {m : Nat} (hm : m ≤ qs.length) : SlF k B w (.slice A m c) (qs.take m) := by
  obtain ⟨ps, rfl, ⟨A', c', hv, h1, h2, h3⟩, h4⟩ := h
  injection hv with e1 e2 e3
  subst e1; subst e2; subst e3
  rw [List.length_map] at hm
  refine ⟨ps.take m, by rw [List.map_take], ⟨A, c, by rw [List.length_take, Nat.min_eq_left hm], by rw [List.length_take]; omega, h2, fun i p hp => h3 i p ?_⟩, fun p hp => h4 p (List.mem_of_mem_take hp)⟩
  rw [List.getElem?_take] at hp
  split at hp
  · exact hp
  · cases hp
end Go.Proofs.YtodpjmbclmlieaaGreat.rat
namespace Go.Proofs.YtodpjmbclmlieaaGreat.rat
open Go.RowKit Go.ChangeShapes Go.WideShapes Go.ChangeAt Go.Joins Go.Deep Go.Proofs.YtodpjmbclmlieaaGreat.num Go.Proofs.YtodpjmbclmlieaaGreat.mem Go.Proofs.YtodpjmbclmlieaaGreat.nat Go.Proofs.YtodpjmbclmlieaaGreat.txt Go.Proofs.YtodpjmbclmlieaaGreat.str Go.Proofs.YtodpjmbclmlieaaGreat.flow Go.Proofs.YtodpjmbclmlieaaGreat.whl
set_option linter.unusedVariables false
theorem ArgQs.below {w w' : World} {v : Value} (h : ArgQs w v) (hb : Below w.heap.size w w') : ArgQs w' v := by
  obtain ⟨A, n, c, e, h1, h2, h3⟩ := h
  refine ⟨A, n, c, e, h1, h2, fun i hi => ?_⟩
  obtain ⟨ad, b, u, t, l, m, e2, c0, c1, c2, k1, k2, k3, k4⟩ := h3 i hi
  exact ⟨ad, b, u, t, l, m, e2, (hb.cell (World.block_lt_of_cell? w _ c0)).trans c0, (hb.cell (World.block_lt_of_cell? w _ c1)).trans c1, (hb.cell (World.block_lt_of_cell? w _ c2)).trans c2, k1.below hb, k2, k3.below hb, k4⟩
/-- Fractions of the program's in a slice, and an error's number. -/
def RetQLE (l : List Rat) (n : Int) (w : World) (e : Ending) (w' : World) : Prop := ∃ V, e = .returned (.tuple #[V, .int .i64 n]) ∧ SlF .u64 4294967296 w' V (if n = 0 then l else []) ∧ Below w.heap.size w w'
def vi (l : List Int) : List Value := l.map (.int .i64)
theorem IsI.news {w : World} {A : Option Addr} {n c : Nat} {l : List Int} (h : IsI w (.slice A n c) l) : ∀ (i : Nat) (u : Value), (vi l)[i]? = some u → ∃ ad, A = some ad ∧ w.cell? (ad.add i) = some u := by
  intro i u hu
  rw [vi, List.getElem?_map] at hu
  cases hz : l[i]? with
  | none => rw [hz] at hu; cases hu
  | some z =>
    rw [hz] at hu
    obtain rfl := Option.some.inj hu
    obtain ⟨ad, h1, _, h2, _⟩ := h.at_ hz
    exact ⟨ad, h1, h2⟩
theorem IsI.take {w : World} {A : Option Addr} {n c : Nat} {l : List Int} (h : IsI w (.slice A n c) l) {m : Nat} (hm : m ≤ l.length) : IsI w (.slice A m c) (l.take m) := by
  obtain ⟨A', c', hv, h1, h2, h3, h4⟩ := h
  injection hv with e1 e2 e3
  subst e1; subst e2; subst e3
  refine ⟨A, c, by rw [List.length_take, Nat.min_eq_left hm], by rw [List.length_take]; omega, h2, fun z hz => h3 z (List.mem_of_mem_take hz), fun i z hz => h4 i z ?_⟩
  rw [List.getElem?_take] at hz
  split at hz
  · exact hz
  · cases hz
section
variable {P : Program}
end
end Go.Proofs.YtodpjmbclmlieaaGreat.rat
namespace Go.Proofs.YtodpjmbclmlieaaGreat.rat
open Go.RowKit Go.Proofs.YtodpjmbclmlieaaGreat.num Go.Proofs.YtodpjmbclmlieaaGreat.mem Go.Proofs.YtodpjmbclmlieaaGreat.nat Go.Proofs.YtodpjmbclmlieaaGreat.txt Go.Proofs.YtodpjmbclmlieaaGreat.str Go.Proofs.YtodpjmbclmlieaaGreat.flow Go.Proofs.YtodpjmbclmlieaaGreat.whl
set_option linter.unusedVariables false
set_option maxHeartbeats 3200000 in
set_option maxRecDepth 100000 in
theorem mul8_any (a0 : Value) (x : Rat) (a1 : Value) (y : Rat) (w : World) (h0 : IsQ w a0 x) (h1 : IsQ w a1 y) (hl : lenQ x 10000) (hl2 : lenQ y 10000) :
    Calls Tryz.prog 35 #[a0, a1] w (RetQ (x * y) w) := by
  obtain ⟨u0, t0, rfl, s0, r0⟩ := h0
  obtain ⟨A0, c0, rfl, _⟩ := id s0
  obtain ⟨D0, e0, rfl, _⟩ := id r0
  obtain ⟨u1, t1, rfl, s1, r1⟩ := h1
  obtain ⟨A1, c1, rfl, _⟩ := id s1
  obtain ⟨D1, e1, rfl, _⟩ := id r1
  obtain ⟨U, hU⟩ : ∃ U, U = (mkRat x.num y.den).num := ⟨_, rfl⟩
  obtain ⟨L, hL⟩ : ∃ L, L = (mkRat x.num y.den).den := ⟨_, rfl⟩
  obtain ⟨V, hV⟩ : ∃ V, V = (mkRat y.num x.den).num := ⟨_, rfl⟩
  obtain ⟨M, hM⟩ : ∃ M, M = (mkRat y.num x.den).den := ⟨_, rfl⟩
  obtain ⟨Q, hQ⟩ : ∃ Q, Q = x * y := ⟨_, rfl⟩
  have HQ0 : Hid (x * y = Q) := hQ.symm
  have HP := mul_parts x y
  rw [← hU, ← hL, ← hV, ← hM, ← hQ] at HP
  have HQN : Hid (U * V = (Q).num) := HP.1.symm
  have HQD : Hid (M * L = (Q).den) := HP.2.symm
  have lx1 := hl.1
  have lx2 := hl.2
  have ly1 := hl2.1
  have ly2 := hl2.2
  have HX : Hid (x.den ≠ 0) := x.den_nz
  have HY : Hid (y.den ≠ 0) := y.den_nz
  have lU : lenQ (mkRat x.num y.den) 10000 := lenQ_mk HY.out lx1 ly2
  have lV : lenQ (mkRat y.num x.den) 10000 := lenQ_mk HX.out ly1 lx2
  unfold lenQ at lU lV
  rw [← hU, ← hL] at lU
  rw [← hV, ← hM] at lV
  have HU := Lib.hid hU
  have HL := Lib.hid hL
  have HV := Lib.hid hV
  have HM := Lib.hid hM
  clear hU hL hV hM hQ HP
  go_enter Tryz.func35, Tryz.ntmps35
  go_upto_region 1 with (fail)
  obtain ⟨wx, hwx, bb, B0, B1, BR0, hsz⟩ := vars3 w 28 28 28 #[.bool (ngB (x).num), .slice A0 (digs 4294967296 (x).num.natAbs).length c0, .slice D0 (digs 4294967296 (x).den).length e0] #[.bool (ngB (y).num), .slice A1 (digs 4294967296 (y).num.natAbs).length c1, .slice D1 (digs 4294967296 (y).den).length e1] #[.bool false, .slice none 0 0, .slice none 0 0]
  rw [hwx]
  clear hwx
  have k0s := s0.below bb
  have k0d := r0.below bb
  have k0z : IsZ wx (.agg #[.bool (ngB (x).num), .slice A0 (digs 4294967296 (x).num.natAbs).length c0]) (x).num := ⟨_, rfl, k0s⟩
  have k0 : IsQ wx (.agg #[.bool (ngB (x).num), .slice A0 (digs 4294967296 (x).num.natAbs).length c0, .slice D0 (digs 4294967296 (x).den).length e0]) (x) := ⟨_, _, rfl, k0s, k0d⟩
  have k1s := s1.below bb
  have k1d := r1.below bb
  have k1z : IsZ wx (.agg #[.bool (ngB (y).num), .slice A1 (digs 4294967296 (y).num.natAbs).length c1]) (y).num := ⟨_, rfl, k1s⟩
  have k1 : IsQ wx (.agg #[.bool (ngB (y).num), .slice A1 (digs 4294967296 (y).num.natAbs).length c1, .slice D1 (digs 4294967296 (y).den).length e1]) (y) := ⟨_, _, rfl, k1s, k1d⟩
  have hsz0 := bb.size
  have sB := bb.size
  have lt0_2 := Blk.lt B0
  have lt0_3 := Blk.lt B1
  have lt0_4 := Blk.lt BR0
  refine flowp 9 [Pd.eq (.pointer (some ⟨w.heap.size, 0, none⟩)), Pd.eq (.agg #[.bool (ngB (x).num), .slice A0 (digs 4294967296 (x).num.natAbs).length c0]), Pd.eq (.pointer (some ⟨w.heap.size + 1, 2, none⟩)), Pd.eq (.slice D1 (digs 4294967296 (y).den).length e1), pzs (U) (L) wx.heap.size, pzs (U) (L) wx.heap.size, pz (U) wx.heap.size, ps .u64 (digs 4294967296 L) wx.heap.size, pn 26 #[.bool false, .slice none 0 0] wx.heap.size] (by kernel_rfl) ?ob28 ?done28
  case ob28 =>
    refine And.intro (ob_fieldAddr rfl (wt_none rfl) (ev_far rfl rfl) (fun _ => by kernel_rfl) (fun _ => rfl)) ?_
    refine And.intro (ob_load rfl (wt_none rfl) (ev_dep (j := 0) (by kernel_rfl) rfl rfl) (fun w2 hb => run_loadPart Tryz.underlying26 rfl (by kernel_rfl) (B0.below hb) rfl) (fun _ _ => rfl)) ?_
    refine And.intro (ob_fieldAddr rfl (wt_none rfl) (ev_far rfl rfl) (fun _ => by kernel_rfl) (fun _ => rfl)) ?_
    refine And.intro (ob_load rfl (wt_none rfl) (ev_dep (j := 2) (by kernel_rfl) rfl rfl) (fun w2 hb => run_load1 Tryz.underlying24 rfl ((B1.below hb).cell 2)) (fun _ _ => rfl)) ?_
    refine And.intro (ob_call2 rfl Tryz.func60 (by kernel_rfl) (wt_none rfl) (ev_dep (j := 1) (by kernel_rfl) rfl rfl) (ev_dep (j := 3) (by kernel_rfl) rfl rfl) (fun w2 u0 u1 hb h0 h1 => by obtain rfl := h0; obtain rfl := h1; exact (reduced_any _ x.num _ y.den U L _ (k0z.below hb) (k1d.below hb) HY.out (Nat.le_trans lx1 (by decide)) (Nat.le_trans ly2 (by decide)) HU.out HL.out).mono fun e w3 h => RetZS.pd h hb.size)) ?_
    refine And.intro (ob_move rfl (wt_none rfl) (ev_dep (j := 4) (by kernel_rfl) rfl rfl) (fun _ _ h => h)) ?_
    refine And.intro (ob_extract rfl (wt_none rfl) (ev_dep (j := 5) (by kernel_rfl) rfl rfl) (fun w2 u hu => by obtain ⟨v, u, rfl, q1, q2, q3, q4⟩ := hu; exact ⟨v, rfl, q1, q3⟩)) ?_
    refine And.intro (ob_extract rfl (wt_none rfl) (ev_dep (j := 5) (by kernel_rfl) rfl rfl) (fun w2 u hu => by obtain ⟨v, u, rfl, q1, q2, q3, q4⟩ := hu; exact ⟨u, rfl, q2, q4⟩)) ?_
    refine And.intro (ob_alloc (z := .agg #[.bool false, .slice none 0 0]) rfl rfl (fun _ => by kernel_rfl) (fun _ _ hB h => ⟨_, rfl, hB, h⟩)) ?_
    trivial
  case done28 =>
    refine fun w1 hb1 v0 h0 v1 h1 v2 h2 v3 h3 v4 h4 v5 h5 v6 h6 v7 h7 v8 h8 d8 b hbf => ?_
    obtain rfl := h0; obtain rfl := h1; obtain rfl := h2; obtain rfl := h3
    clear h4
    clear h5
    obtain ⟨q6, f6⟩ := h6
    obtain ⟨q7, f7⟩ := h7
    obtain ⟨g28_8, rfl, hg8, B8⟩ := h8
    simp only [Act.put, List.setIfInBounds_toArray, List.set_cons_zero, List.set_cons_succ] at hbf
    subst hbf
    replace B0 := B0.below hb1
    replace k0s := k0s.below hb1
    replace k0d := k0d.below hb1
    replace k0z := k0z.below hb1
    replace k0 := k0.below hb1
    replace B1 := B1.below hb1
    replace k1s := k1s.below hb1
    replace k1d := k1d.below hb1
    replace k1z := k1z.below hb1
    replace k1 := k1.below hb1
    replace BR0 := BR0.below hb1
    replace bb := bb.trans (hb1.mono bb.size)
    have hsz1 := bb.size
    have s_6 := sB
    have s_7 := sB
    obtain ⟨A16, c16, rfl, _⟩ := id q7
    have n16 := q7
    have n16f := f7
    have n16z_ := s_7
    have BA5 := B8
    obtain ⟨u6, rfl, q6⟩ := q6
    obtain ⟨A5, c5, rfl, _⟩ := id q6
    refine ops_store (i := 9) rfl rfl rfl rfl rfl rfl (cells := [.bool (ngB U), .slice A5 (digs 4294967296 (U).natAbs).length c5]) rfl BA5 rfl (by kernel_rfl) (one2 rfl rfl) fun w2 hg2 BN2 => ?_
    replace q6 := off q6 BA5 no_ints2 hg2
    replace n16 := off n16 BA5 no_ints2 hg2
    replace k0s := off k0s BA5 no_ints2 hg2
    replace k0d := off k0d BA5 no_ints2 hg2
    replace k0z : IsZ w2 (.agg #[.bool (ngB (x).num), .slice A0 (digs 4294967296 (x).num.natAbs).length c0]) ((x).num) := ⟨_, rfl, k0s⟩
    replace k0 : IsQ w2 (.agg #[.bool (ngB (x).num), .slice A0 (digs 4294967296 (x).num.natAbs).length c0, .slice D0 (digs 4294967296 (x).den).length e0]) (x) := ⟨_, _, rfl, k0s, k0d⟩
    replace B0 := B0.grown hg2 (by omega)
    replace k1s := off k1s BA5 no_ints2 hg2
    replace k1d := off k1d BA5 no_ints2 hg2
    replace k1z : IsZ w2 (.agg #[.bool (ngB (y).num), .slice A1 (digs 4294967296 (y).num.natAbs).length c1]) ((y).num) := ⟨_, rfl, k1s⟩
    replace k1 : IsQ w2 (.agg #[.bool (ngB (y).num), .slice A1 (digs 4294967296 (y).num.natAbs).length c1, .slice D1 (digs 4294967296 (y).den).length e1]) (y) := ⟨_, _, rfl, k1s, k1d⟩
    replace B1 := B1.grown hg2 (by omega)
    replace BR0 := BR0.grown hg2 (by omega)
    replace bb := bb.trans ((Below.refl _ _).grown hg2 bb.size (fun g hg => by injection hg with hg; omega))
    have hsz2 := bb.size
    have B5 : Blk w2 (g28_8) _ _ := BN2
    have k5s := q6
    have k5 : IsZ w2 (.agg #[.bool (ngB U), .slice A5 (digs 4294967296 (U).natAbs).length c5]) (U) := ⟨_, rfl, k5s⟩
    refine ops_assign (i := 10) (.slice A16 (digs 4294967296 L).length c16) rfl rfl rfl rfl rfl fun b hbf => ?_
    simp only [Act.put, List.setIfInBounds_toArray, List.set_cons_zero, List.set_cons_succ] at hbf
    subst hbf
    refine ops_done ?_
    have f5_ := (f6 _ _ rfl).mono s_6
    have sB := bb.size
    go_upto_region 2 with (fail)
    have lt2_2 := Blk.lt B0
    have lt2_3 := Blk.lt B1
    have lt2_4 := Blk.lt BR0
    have lt2_5 := Blk.lt B5
    refine flowp 9 [Pd.eq (.pointer (some ⟨w.heap.size + 1, 0, none⟩)), Pd.eq (.agg #[.bool (ngB (y).num), .slice A1 (digs 4294967296 (y).num.natAbs).length c1]), Pd.eq (.pointer (some ⟨w.heap.size, 2, none⟩)), Pd.eq (.slice D0 (digs 4294967296 (x).den).length e0), pzs (V) (M) w2.heap.size, pzs (V) (M) w2.heap.size, pz (V) w2.heap.size, ps .u64 (digs 4294967296 M) w2.heap.size, pn 26 #[.bool false, .slice none 0 0] w2.heap.size] (by kernel_rfl) ?ob29 ?done29
    case ob29 =>
      refine And.intro (ob_fieldAddr rfl (wt_none rfl) (ev_far rfl rfl) (fun _ => by kernel_rfl) (fun _ => rfl)) ?_
      refine And.intro (ob_load rfl (wt_none rfl) (ev_dep (j := 0) (by kernel_rfl) rfl rfl) (fun w2 hb => run_loadPart Tryz.underlying26 rfl (by kernel_rfl) (B1.below hb) rfl) (fun _ _ => rfl)) ?_
      refine And.intro (ob_fieldAddr rfl (wt_none rfl) (ev_far rfl rfl) (fun _ => by kernel_rfl) (fun _ => rfl)) ?_
      refine And.intro (ob_load rfl (wt_none rfl) (ev_dep (j := 2) (by kernel_rfl) rfl rfl) (fun w2 hb => run_load1 Tryz.underlying24 rfl ((B0.below hb).cell 2)) (fun _ _ => rfl)) ?_
      refine And.intro (ob_call2 rfl Tryz.func60 (by kernel_rfl) (wt_none rfl) (ev_dep (j := 1) (by kernel_rfl) rfl rfl) (ev_dep (j := 3) (by kernel_rfl) rfl rfl) (fun w2 u0 u1 hb h0 h1 => by obtain rfl := h0; obtain rfl := h1; exact (reduced_any _ y.num _ x.den V M _ (k1z.below hb) (k0d.below hb) HX.out (Nat.le_trans ly1 (by decide)) (Nat.le_trans lx2 (by decide)) HV.out HM.out).mono fun e w3 h => RetZS.pd h hb.size)) ?_
      refine And.intro (ob_move rfl (wt_none rfl) (ev_dep (j := 4) (by kernel_rfl) rfl rfl) (fun _ _ h => h)) ?_
      refine And.intro (ob_extract rfl (wt_none rfl) (ev_dep (j := 5) (by kernel_rfl) rfl rfl) (fun w2 u hu => by obtain ⟨v, u, rfl, q1, q2, q3, q4⟩ := hu; exact ⟨v, rfl, q1, q3⟩)) ?_
      refine And.intro (ob_extract rfl (wt_none rfl) (ev_dep (j := 5) (by kernel_rfl) rfl rfl) (fun w2 u hu => by obtain ⟨v, u, rfl, q1, q2, q3, q4⟩ := hu; exact ⟨u, rfl, q2, q4⟩)) ?_
      refine And.intro (ob_alloc (z := .agg #[.bool false, .slice none 0 0]) rfl rfl (fun _ => by kernel_rfl) (fun _ _ hB h => ⟨_, rfl, hB, h⟩)) ?_
      trivial
    case done29 =>
      refine fun w3 hb3 v0 h0 v1 h1 v2 h2 v3 h3 v4 h4 v5 h5 v6 h6 v7 h7 v8 h8 d8 b hbf => ?_
      obtain rfl := h0; obtain rfl := h1; obtain rfl := h2; obtain rfl := h3
      clear h4
      clear h5
      obtain ⟨q6, f6⟩ := h6
      obtain ⟨q7, f7⟩ := h7
      obtain ⟨g29_8, rfl, hg8, B8⟩ := h8
      simp only [Act.put, List.setIfInBounds_toArray, List.set_cons_zero, List.set_cons_succ] at hbf
      subst hbf
      replace B0 := B0.below hb3
      replace k0s := k0s.below hb3
      replace k0d := k0d.below hb3
      replace k0z := k0z.below hb3
      replace k0 := k0.below hb3
      replace B1 := B1.below hb3
      replace k1s := k1s.below hb3
      replace k1d := k1d.below hb3
      replace k1z := k1z.below hb3
      replace k1 := k1.below hb3
      replace BR0 := BR0.below hb3
      replace B5 := B5.below hb3
      replace k5s := k5s.below hb3
      replace k5 := k5.below hb3
      replace n16 := n16.below hb3
      replace bb := bb.trans (hb3.mono bb.size)
      have hsz3 := bb.size
      have s_6 := sB
      have s_7 := sB
      obtain ⟨A24, c24, rfl, _⟩ := id q7
      have n24 := q7
      have n24f := f7
      have n24z_ := s_7
      have BA7 := B8
      obtain ⟨u6, rfl, q6⟩ := q6
      obtain ⟨A7, c7, rfl, _⟩ := id q6
      refine ops_store (i := 9) rfl rfl rfl rfl rfl rfl (cells := [.bool (ngB V), .slice A7 (digs 4294967296 (V).natAbs).length c7]) rfl BA7 rfl (by kernel_rfl) (one2 rfl rfl) fun w4 hg4 BN4 => ?_
      replace q6 := off q6 BA7 no_ints2 hg4
      replace n16 := off n16 BA7 no_ints2 hg4
      replace n24 := off n24 BA7 no_ints2 hg4
      replace k0s := off k0s BA7 no_ints2 hg4
      replace k0d := off k0d BA7 no_ints2 hg4
      replace k0z : IsZ w4 (.agg #[.bool (ngB (x).num), .slice A0 (digs 4294967296 (x).num.natAbs).length c0]) ((x).num) := ⟨_, rfl, k0s⟩
      replace k0 : IsQ w4 (.agg #[.bool (ngB (x).num), .slice A0 (digs 4294967296 (x).num.natAbs).length c0, .slice D0 (digs 4294967296 (x).den).length e0]) (x) := ⟨_, _, rfl, k0s, k0d⟩
      replace B0 := B0.grown hg4 (by omega)
      replace k1s := off k1s BA7 no_ints2 hg4
      replace k1d := off k1d BA7 no_ints2 hg4
      replace k1z : IsZ w4 (.agg #[.bool (ngB (y).num), .slice A1 (digs 4294967296 (y).num.natAbs).length c1]) ((y).num) := ⟨_, rfl, k1s⟩
      replace k1 : IsQ w4 (.agg #[.bool (ngB (y).num), .slice A1 (digs 4294967296 (y).num.natAbs).length c1, .slice D1 (digs 4294967296 (y).den).length e1]) (y) := ⟨_, _, rfl, k1s, k1d⟩
      replace B1 := B1.grown hg4 (by omega)
      replace BR0 := BR0.grown hg4 (by omega)
      replace k5s := off k5s BA7 no_ints2 hg4
      replace k5 : IsZ w4 (.agg #[.bool (ngB U), .slice A5 (digs 4294967296 (U).natAbs).length c5]) (U) := ⟨_, rfl, k5s⟩
      replace B5 := B5.grown hg4 (by omega)
      replace bb := bb.trans ((Below.refl _ _).grown hg4 bb.size (fun g hg => by injection hg with hg; omega))
      have hsz4 := bb.size
      have B7 : Blk w4 (g29_8) _ _ := BN4
      have k7s := q6
      have k7 : IsZ w4 (.agg #[.bool (ngB V), .slice A7 (digs 4294967296 (V).natAbs).length c7]) (V) := ⟨_, rfl, k7s⟩
      refine ops_assign (i := 10) (.slice A24 (digs 4294967296 M).length c24) rfl rfl rfl rfl rfl fun b hbf => ?_
      simp only [Act.put, List.setIfInBounds_toArray, List.set_cons_zero, List.set_cons_succ] at hbf
      subst hbf
      refine ops_done ?_
      have f7_ := (f6 _ _ rfl).mono s_6
      have sB := bb.size
      go_upto_region 3 with (fail)
      refine flowp 7 [Pd.eq (.agg #[.bool (ngB U), .slice A5 (digs 4294967296 (U).natAbs).length c5]), Pd.eq (.agg #[.bool (ngB V), .slice A7 (digs 4294967296 (V).natAbs).length c7]), pz ((Q).num) w4.heap.size, Pd.eq (.slice A24 (digs 4294967296 M).length c24), Pd.eq (.slice A16 (digs 4294967296 L).length c16), ps .u64 (digs 4294967296 (Q).den) w4.heap.size, pq (Q) w4.heap.size] (by kernel_rfl) ?ob30 ?done30
      case ob30 =>
        refine And.intro (ob_load rfl (wt_none rfl) (ev_far rfl rfl) (fun w2 hb => run_loadAll Tryz.underlying26 rfl (by kernel_rfl) (B5.below hb)) (fun _ _ => rfl)) ?_
        refine And.intro (ob_load rfl (wt_none rfl) (ev_far rfl rfl) (fun w2 hb => run_loadAll Tryz.underlying26 rfl (by kernel_rfl) (B7.below hb)) (fun _ _ => rfl)) ?_
        refine And.intro (ob_call2 rfl Tryz.func58 (by kernel_rfl) (wt_none rfl) (ev_dep (j := 0) (by kernel_rfl) rfl rfl) (ev_dep (j := 1) (by kernel_rfl) rfl rfl) (fun w2 u0 u1 hb h0 h1 => by obtain rfl := h0; obtain rfl := h1; exact (zmul_any _ _ U V (Q).num _ (k5.below hb) (k7.below hb) (Nat.le_trans lU.1 (by decide)) (Nat.le_trans lV.1 (by decide)) HQN.out.symm).mono fun e w3 h => RetZ.pd h hb.size)) ?_
        refine And.intro (ob_move rfl (wt_none rfl) (ev_far rfl rfl) (fun _ _ h => h)) ?_
        refine And.intro (ob_move rfl (wt_none rfl) (ev_far rfl rfl) (fun _ _ h => h)) ?_
        refine And.intro (ob_call2 rfl Tryz.func61 (by kernel_rfl) (wt_none rfl) (ev_dep (j := 3) (by kernel_rfl) rfl rfl) (ev_dep (j := 4) (by kernel_rfl) rfl rfl) (fun w2 u0 u1 hb h0 h1 => by obtain rfl := h0; obtain rfl := h1; exact (times_any _ M _ L _ (n24.below hb) (n16.below hb) (Nat.le_trans lV.2 (by decide)) (Nat.le_trans lU.2 (by decide))).mono fun e w3 h => RetS.pd (RetS.to h (congrArg (digs 4294967296) HQD.out)) hb.size)) ?_
        refine And.intro (ob_build2b rfl (wt_none rfl) (ev_dep (j := 2) (by kernel_rfl) rfl rfl) (ev_dep (j := 5) (by kernel_rfl) rfl rfl) (fun w2 u v hb hu hv => by obtain ⟨u7, rfl, hu7⟩ := hu.1; obtain ⟨A7, c7, rfl, _⟩ := id hu7; obtain ⟨A8, c8, rfl, _⟩ := id hv.1; exact ⟨.agg #[.bool (ngB (Q).num), .slice A7 (digs 4294967296 (Q).num.natAbs).length c7, .slice A8 (digs 4294967296 (Q).den).length c8], by kernel_rfl, ⟨⟨_, _, rfl, hu7, hv.1⟩, freshQ_mk (hu.2 _ _ rfl) hv.2⟩⟩)) ?_
        trivial
      case done30 =>
        refine fun w5 hb5 v0 h0 v1 h1 v2 h2 v3 h3 v4 h4 v5 h5 v6 h6 b hbf => ?_
        obtain rfl := h0; obtain rfl := h1; obtain rfl := h3; obtain rfl := h4
        obtain ⟨q2, f2⟩ := h2
        obtain ⟨q5, f5⟩ := h5
        obtain ⟨q6, f6⟩ := h6
        simp only [Act.put, List.setIfInBounds_toArray, List.set_cons_zero, List.set_cons_succ] at hbf
        subst hbf
        replace B0 := B0.below hb5
        replace k0s := k0s.below hb5
        replace k0d := k0d.below hb5
        replace k0z := k0z.below hb5
        replace k0 := k0.below hb5
        replace B1 := B1.below hb5
        replace k1s := k1s.below hb5
        replace k1d := k1d.below hb5
        replace k1z := k1z.below hb5
        replace k1 := k1.below hb5
        replace BR0 := BR0.below hb5
        replace B5 := B5.below hb5
        replace k5s := k5s.below hb5
        replace k5 := k5.below hb5
        replace B7 := B7.below hb5
        replace k7s := k7s.below hb5
        replace k7 := k7.below hb5
        replace n16 := n16.below hb5
        replace n24 := n24.below hb5
        replace bb := bb.trans (hb5.mono bb.size)
        have hsz5 := bb.size
        have s_2 := sB
        have s_5 := sB
        have s_6 := sB
        obtain ⟨u6, t6, rfl, q6, d6⟩ := q6
        obtain ⟨A9, c9, rfl, _⟩ := id q6
        obtain ⟨D9, e9, rfl, _⟩ := id d6
        have fS := (f6 _ _ _ rfl).1.mono s_6
        have fT := (f6 _ _ _ rfl).2.mono s_6
        refine ops_store (i := 7) rfl rfl rfl rfl rfl rfl (cells := [.bool (ngB (Q).num), .slice A9 (digs 4294967296 (Q).num.natAbs).length c9, .slice D9 (digs 4294967296 (Q).den).length e9]) rfl BR0 rfl (by kernel_rfl) (one3 rfl rfl rfl) fun w9 hg9 B9 => ?_
        have k9 := off q6 BR0 no_ints3 hg9
        have d9 := off d6 BR0 no_ints3 hg9
        have bb9 := bb.trans ((Below.refl _ _).grown hg9 bb.size (fun g hg => by injection hg with hg; omega))
        obtain ⟨C0, C1, C2, _, _, _⟩ := three B9
        refine ops_done ?_
        go_wp2
        rw [HQ0.out]
        exact bodyPost_ret (v := .agg #[.bool (ngB (Q).num), .slice A9 (digs 4294967296 (Q).num.natAbs).length c9, .slice D9 (digs 4294967296 (Q).den).length e9]) (by simp [results, Tryz.results35, go_sem, C0, C1, C2]) rfl ⟨_, rfl, isQ_mk k9 d9 rfl rfl rfl, freshQ_mk fS fT, bb9⟩
set_option maxHeartbeats 3200000 in
set_option maxRecDepth 100000 in
theorem add8_any (a0 : Value) (x : Rat) (a1 : Value) (y : Rat) (w : World) (h0 : IsQ w a0 x) (h1 : IsQ w a1 y) (hl : lenQ x 1000) (hl2 : lenQ y 1000) :
    Calls Tryz.prog 31 #[a0, a1] w (RetQ (x + y) w) := by
  obtain ⟨u0, t0, rfl, s0, r0⟩ := h0
  obtain ⟨A0, c0, rfl, _⟩ := id s0
  obtain ⟨D0, e0, rfl, _⟩ := id r0
  obtain ⟨u1, t1, rfl, s1, r1⟩ := h1
  obtain ⟨A1, c1, rfl, _⟩ := id s1
  obtain ⟨D1, e1, rfl, _⟩ := id r1
  obtain ⟨G, hG⟩ : ∃ G, G = Nat.gcd x.den y.den := ⟨_, rfl⟩
  obtain ⟨m1, ha⟩ : ∃ m1, m1 = x.den / G := ⟨_, rfl⟩
  obtain ⟨m2, hb_⟩ : ∃ m2, m2 = y.den / G := ⟨_, rfl⟩
  have hGp : 0 < G := by rw [hG]; exact Nat.gcd_pos_of_pos_left _ x.den_pos
  have hGd : G ≤ x.den := by rw [hG]; exact Nat.gcd_le_left _ x.den_pos
  obtain ⟨S, hS⟩ : ∃ S, S = (x.num * ((m2 : Nat) : Int) + y.num * ((m1 : Nat) : Int)) := ⟨_, rfl⟩
  obtain ⟨U, hU⟩ : ∃ U, U = (mkRat S G).num := ⟨_, rfl⟩
  obtain ⟨L, hL⟩ : ∃ L, L = (mkRat S G).den := ⟨_, rfl⟩
  obtain ⟨Q, hQ⟩ : ∃ Q, Q = x + y := ⟨_, rfl⟩
  have HQ0 : Hid (x + y = Q) := hQ.symm
  have HP := add_parts x y hG ha hb_
  rw [← hS, ← hU, ← hL, ← hQ] at HP
  have HQN := Lib.hid HP.1
  have HQD := Lib.hid HP.2
  have lx1 := hl.1
  have lx2 := hl.2
  have ly1 := hl2.1
  have ly2 := hl2.2
  have la : (digs 4294967296 m1).length ≤ 1000 := Nat.le_trans (digs_len_mono (by omega) (by rw [ha]; exact Nat.div_le_self _ _)) lx2
  have lb : (digs 4294967296 m2).length ≤ 1000 := Nat.le_trans (digs_len_mono (by omega) (by rw [hb_]; exact Nat.div_le_self _ _)) ly2
  have lG : (digs 4294967296 G).length ≤ 1000 := Nat.le_trans (digs_len_mono (by omega) hGd) lx2
  have lza : lenZ ((m1 : Nat) : Int) ≤ 1000 := by rw [lenD]; exact la
  have lzb : lenZ ((m2 : Nat) : Int) ≤ 1000 := by rw [lenD]; exact lb
  have lp : lenZ (x.num * ((m2 : Nat) : Int)) ≤ 2000 := lenZ_mul_le lx1 lzb
  have lq : lenZ (y.num * ((m1 : Nat) : Int)) ≤ 2000 := lenZ_mul_le ly1 lza
  have lS : lenZ S ≤ 4001 := by rw [hS]; exact lenZ_add_le lp lq
  have HL1 : Hid ((digs 4294967296 x.den).length ≤ 90000) := Nat.le_trans lx2 (by decide)
  have HL2 : Hid ((digs 4294967296 y.den).length ≤ 90000) := Nat.le_trans ly2 (by decide)
  have lL : (digs 4294967296 L).length ≤ 1000 := Nat.le_trans (digs_len_mono (by omega) (by rw [hL, mk_den S (by omega)]; exact Nat.div_le_self _ _)) lG
  have lab : (digs 4294967296 (m1 * m2)).length ≤ 2000 := by have := mul_len m1 m2; omega
  have HG : Hid (gcds [x.den, y.den] = G) := by show _ = _; rw [hG]; simp [gcds]
  have HM1 : Hid (x.den % G = 0) := by show _ = _; rw [hG]; exact Nat.mod_eq_zero_of_dvd (Nat.gcd_dvd_left _ _)
  have HM2 : Hid (y.den % G = 0) := by show _ = _; rw [hG]; exact Nat.mod_eq_zero_of_dvd (Nat.gcd_dvd_right _ _)
  have HA := Lib.hid ha
  have HB := Lib.hid hb_
  have HS : Hid ((x.num * ((m2 : Nat) : Int) + y.num * ((m1 : Nat) : Int)) = S) := hS.symm
  have HU := Lib.hid hU
  have HL := Lib.hid hL
  have HGn : Hid (G ≠ 0) := by show _ ≠ _; omega
  clear hG ha hb_ hS hU hL hQ HP
  go_enter Tryz.func31, Tryz.ntmps31
  go_upto_region 1 with (fail)
  obtain ⟨wx, hwx, bb, B0, B1, BR0, hsz⟩ := vars3 w 28 28 28 #[.bool (ngB (x).num), .slice A0 (digs 4294967296 (x).num.natAbs).length c0, .slice D0 (digs 4294967296 (x).den).length e0] #[.bool (ngB (y).num), .slice A1 (digs 4294967296 (y).num.natAbs).length c1, .slice D1 (digs 4294967296 (y).den).length e1] #[.bool false, .slice none 0 0, .slice none 0 0]
  rw [hwx]
  clear hwx
  have k0s := s0.below bb
  have k0d := r0.below bb
  have k0z : IsZ wx (.agg #[.bool (ngB (x).num), .slice A0 (digs 4294967296 (x).num.natAbs).length c0]) (x).num := ⟨_, rfl, k0s⟩
  have k0 : IsQ wx (.agg #[.bool (ngB (x).num), .slice A0 (digs 4294967296 (x).num.natAbs).length c0, .slice D0 (digs 4294967296 (x).den).length e0]) (x) := ⟨_, _, rfl, k0s, k0d⟩
  have k1s := s1.below bb
  have k1d := r1.below bb
  have k1z : IsZ wx (.agg #[.bool (ngB (y).num), .slice A1 (digs 4294967296 (y).num.natAbs).length c1]) (y).num := ⟨_, rfl, k1s⟩
  have k1 : IsQ wx (.agg #[.bool (ngB (y).num), .slice A1 (digs 4294967296 (y).num.natAbs).length c1, .slice D1 (digs 4294967296 (y).den).length e1]) (y) := ⟨_, _, rfl, k1s, k1d⟩
  have hsz0 := bb.size
  obtain ⟨x00, x01, x02, _, _, _⟩ := three B0
  obtain ⟨x10, x11, x12, _, _, _⟩ := three B1
  go_wp2_with fail
  have hbA := below_alloc (Nat.le_refl wx.heap.size) (.cells #[.slice D0 (digs 4294967296 (x).den).length e0, .slice D1 (digs 4294967296 (y).den).length e1] 24)
  refine (ggcd_any _ [_, _] [x.den, y.den] _ (isV_lit wx 24 [_, _]) (nums2 (k0d.below hbA) (k1d.below hbA)) (by simp) (by intro q hq; simp at hq; rcases hq with rfl | rfl; exact HL1.out; exact HL2.out)).mono ?_
  rintro e w1 ⟨v1, rfl, kg, kgf, b1⟩
  have hb1 := hbA.trans (b1.mono hbA.size)
  rw [HG.out] at kg
  clear x00 x01 x02 x10 x11 x12
  replace B0 := B0.below hb1
  replace k0s := k0s.below hb1
  replace k0d := k0d.below hb1
  replace k0z := k0z.below hb1
  replace k0 := k0.below hb1
  replace B1 := B1.below hb1
  replace k1s := k1s.below hb1
  replace k1d := k1d.below hb1
  replace k1z := k1z.below hb1
  replace k1 := k1.below hb1
  replace BR0 := BR0.below hb1
  replace bb := bb.trans (hb1.mono bb.size)
  have hsz1 := bb.size
  obtain ⟨Akg, ckg, rfl, _⟩ := id kg
  have sB := bb.size
  go_upto_region 2 with (fail)
  refine flowp 9 [Pd.eq (.pointer (some ⟨w.heap.size, 2, none⟩)), Pd.eq (.slice D0 (digs 4294967296 (x).den).length e0), Pd.eq (.slice Akg (digs 4294967296 G).length ckg), pt .u64 (digs 4294967296 m1) 0 w1.heap.size, pt .u64 (digs 4294967296 m1) 0 w1.heap.size, ps .u64 (digs 4294967296 m1) w1.heap.size, Pd.eq (.int .i64 0), ps .u64 (digs 4294967296 m1) w1.heap.size, Pd.eq (.int .i64 0)] (by kernel_rfl) ?ob37 ?done37
  case ob37 =>
    refine And.intro (ob_fieldAddr rfl (wt_none rfl) (ev_far rfl rfl) (fun _ => by kernel_rfl) (fun _ => rfl)) ?_
    refine And.intro (ob_load rfl (wt_none rfl) (ev_dep (j := 0) (by kernel_rfl) rfl rfl) (fun w2 hb => run_load1 Tryz.underlying24 rfl ((B0.below hb).cell 2)) (fun _ _ => rfl)) ?_
    refine And.intro (ob_move rfl (wt_none rfl) (ev_far rfl rfl) (fun _ _ h => h)) ?_
    refine And.intro (ob_call2 rfl Tryz.func56 (by kernel_rfl) (wt_none rfl) (ev_dep (j := 1) (by kernel_rfl) rfl rfl) (ev_dep (j := 2) (by kernel_rfl) rfl rfl) (fun w2 u0 u1 hb h0 h1 => by obtain rfl := h0; obtain rfl := h1; exact (dexact_ok _ _ x.den G _ (k0d.below hb) (kg.below hb) HL1.out (Nat.le_trans lG (by decide)) hGp m1 HM1.out HA.out).mono fun e w3 h => RetSI.pd h hb.size)) ?_
    refine And.intro (ob_move rfl (wt_none rfl) (ev_dep (j := 3) (by kernel_rfl) rfl rfl) (fun _ _ h => h)) ?_
    refine And.intro (ob_extract rfl (wt_none rfl) (ev_dep (j := 4) (by kernel_rfl) rfl rfl) (fun w2 u hu => by obtain ⟨v, rfl, q1, q2⟩ := hu; exact ⟨v, rfl, q1, q2⟩)) ?_
    refine And.intro (ob_extract rfl (wt_none rfl) (ev_dep (j := 4) (by kernel_rfl) rfl rfl) (fun w2 u hu => by obtain ⟨v, rfl, q1, q2⟩ := hu; exact ⟨_, rfl, rfl⟩)) ?_
    refine And.intro (ob_assign rfl (wt_none rfl) (ev_dep (j := 5) (by kernel_rfl) rfl rfl) (fun _ _ h => h)) ?_
    refine And.intro (ob_assign rfl (wt_none rfl) (ev_dep (j := 6) (by kernel_rfl) rfl rfl) (fun _ _ h => h)) ?_
    trivial
  case done37 =>
    refine fun w2 hb2 v0 h0 v1 h1 v2 h2 v3 h3 v4 h4 v5 h5 v6 h6 v7 h7 v8 h8 b hbf => ?_
    obtain rfl := h0; obtain rfl := h1; obtain rfl := h2; obtain rfl := h6; obtain rfl := h8
    clear h3
    clear h4
    obtain ⟨q5, f5⟩ := h5
    obtain ⟨q7, f7⟩ := h7
    simp only [Act.put, List.setIfInBounds_toArray, List.set_cons_zero, List.set_cons_succ] at hbf
    subst hbf
    replace B0 := B0.below hb2
    replace k0s := k0s.below hb2
    replace k0d := k0d.below hb2
    replace k0z := k0z.below hb2
    replace k0 := k0.below hb2
    replace B1 := B1.below hb2
    replace k1s := k1s.below hb2
    replace k1d := k1d.below hb2
    replace k1z := k1z.below hb2
    replace k1 := k1.below hb2
    replace BR0 := BR0.below hb2
    replace kg := kg.below hb2
    replace bb := bb.trans (hb2.mono bb.size)
    have hsz2 := bb.size
    have s_5 := sB
    have s_7 := sB
    refine ops_done ?_
    obtain ⟨A6, c6, rfl, _⟩ := id q7
    have n6 := q7
    have n6f := f7
    have n6z_ := s_7
    have sB := bb.size
    go_upto_region 3 with (fail)
    refine flowp 9 [Pd.eq (.pointer (some ⟨w.heap.size + 1, 2, none⟩)), Pd.eq (.slice D1 (digs 4294967296 (y).den).length e1), Pd.eq (.slice Akg (digs 4294967296 G).length ckg), pt .u64 (digs 4294967296 m2) 0 w2.heap.size, pt .u64 (digs 4294967296 m2) 0 w2.heap.size, ps .u64 (digs 4294967296 m2) w2.heap.size, Pd.eq (.int .i64 0), ps .u64 (digs 4294967296 m2) w2.heap.size, Pd.eq (.int .i64 0)] (by kernel_rfl) ?ob38 ?done38
    case ob38 =>
      refine And.intro (ob_fieldAddr rfl (wt_none rfl) (ev_far rfl rfl) (fun _ => by kernel_rfl) (fun _ => rfl)) ?_
      refine And.intro (ob_load rfl (wt_none rfl) (ev_dep (j := 0) (by kernel_rfl) rfl rfl) (fun w2 hb => run_load1 Tryz.underlying24 rfl ((B1.below hb).cell 2)) (fun _ _ => rfl)) ?_
      refine And.intro (ob_move rfl (wt_none rfl) (ev_far rfl rfl) (fun _ _ h => h)) ?_
      refine And.intro (ob_call2 rfl Tryz.func56 (by kernel_rfl) (wt_none rfl) (ev_dep (j := 1) (by kernel_rfl) rfl rfl) (ev_dep (j := 2) (by kernel_rfl) rfl rfl) (fun w2 u0 u1 hb h0 h1 => by obtain rfl := h0; obtain rfl := h1; exact (dexact_ok _ _ y.den G _ (k1d.below hb) (kg.below hb) HL2.out (Nat.le_trans lG (by decide)) hGp m2 HM2.out HB.out).mono fun e w3 h => RetSI.pd h hb.size)) ?_
      refine And.intro (ob_move rfl (wt_none rfl) (ev_dep (j := 3) (by kernel_rfl) rfl rfl) (fun _ _ h => h)) ?_
      refine And.intro (ob_extract rfl (wt_none rfl) (ev_dep (j := 4) (by kernel_rfl) rfl rfl) (fun w2 u hu => by obtain ⟨v, rfl, q1, q2⟩ := hu; exact ⟨v, rfl, q1, q2⟩)) ?_
      refine And.intro (ob_extract rfl (wt_none rfl) (ev_dep (j := 4) (by kernel_rfl) rfl rfl) (fun w2 u hu => by obtain ⟨v, rfl, q1, q2⟩ := hu; exact ⟨_, rfl, rfl⟩)) ?_
      refine And.intro (ob_assign rfl (wt_none rfl) (ev_dep (j := 5) (by kernel_rfl) rfl rfl) (fun _ _ h => h)) ?_
      refine And.intro (ob_assign rfl (wt_none rfl) (ev_dep (j := 6) (by kernel_rfl) rfl rfl) (fun _ _ h => h)) ?_
      trivial
    case done38 =>
      refine fun w3 hb3 v0 h0 v1 h1 v2 h2 v3 h3 v4 h4 v5 h5 v6 h6 v7 h7 v8 h8 b hbf => ?_
      obtain rfl := h0; obtain rfl := h1; obtain rfl := h2; obtain rfl := h6; obtain rfl := h8
      clear h3
      clear h4
      obtain ⟨q5, f5⟩ := h5
      obtain ⟨q7, f7⟩ := h7
      simp only [Act.put, List.setIfInBounds_toArray, List.set_cons_zero, List.set_cons_succ] at hbf
      subst hbf
      replace B0 := B0.below hb3
      replace k0s := k0s.below hb3
      replace k0d := k0d.below hb3
      replace k0z := k0z.below hb3
      replace k0 := k0.below hb3
      replace B1 := B1.below hb3
      replace k1s := k1s.below hb3
      replace k1d := k1d.below hb3
      replace k1z := k1z.below hb3
      replace k1 := k1.below hb3
      replace BR0 := BR0.below hb3
      replace kg := kg.below hb3
      replace n6 := n6.below hb3
      replace bb := bb.trans (hb3.mono bb.size)
      have hsz3 := bb.size
      have s_5 := sB
      have s_7 := sB
      refine ops_done ?_
      obtain ⟨A8, c8, rfl, _⟩ := id q7
      have n8 := q7
      have n8f := f7
      have n8z_ := s_7
      have sB := bb.size
      go_upto_region 4 with (fail)
      have lt3_2 := Blk.lt B0
      have lt3_3 := Blk.lt B1
      have lt3_4 := Blk.lt BR0
      refine flow 12 [Pd.eq (.pointer (some ⟨w.heap.size, 0, none⟩)), Pd.eq (.agg #[.bool (ngB (x).num), .slice A0 (digs 4294967296 (x).num.natAbs).length c0]), Pd.eq (.slice A8 (digs 4294967296 m2).length c8), pi (((m2 : Nat) : Int)), pi ((x.num * ((m2 : Nat) : Int))), Pd.eq (.pointer (some ⟨w.heap.size + 1, 0, none⟩)), Pd.eq (.agg #[.bool (ngB (y).num), .slice A1 (digs 4294967296 (y).num.natAbs).length c1]), Pd.eq (.slice A6 (digs 4294967296 m1).length c6), pi (((m1 : Nat) : Int)), pi ((y.num * ((m1 : Nat) : Int))), pz (S) w3.heap.size, pn 26 #[.bool false, .slice none 0 0] w3.heap.size] (by kernel_rfl) (by kernel_rfl) ?ob39 ?done39
      case ob39 =>
        refine And.intro (ob_fieldAddr rfl (wt_none rfl) (ev_far rfl rfl) (fun _ => by kernel_rfl) (fun _ => rfl)) ?_
        refine And.intro (ob_load rfl (wt_none rfl) (ev_dep (j := 0) (by kernel_rfl) rfl rfl) (fun w2 hb => run_loadPart Tryz.underlying26 rfl (by kernel_rfl) (B0.drew.below hb) rfl) (fun _ _ => rfl)) ?_
        refine And.intro (ob_move rfl (wt_none rfl) (ev_far rfl rfl) (fun _ _ h => h)) ?_
        refine And.intro (ob_call1 rfl Tryz.func59 (by kernel_rfl) (wt_none rfl) (ev_dep (j := 2) (by kernel_rfl) rfl rfl) (fun w2 u0 hb h0 => by obtain rfl := h0; exact unsigned_pd _ (m2) _ (n8.drew.below hb))) ?_
        refine And.intro (ob_call2 rfl Tryz.func58 (by kernel_rfl) (wt_none rfl) (ev_dep (j := 1) (by kernel_rfl) rfl rfl) (ev_dep (j := 3) (by kernel_rfl) rfl rfl) (fun w2 u0 u1 hb h0 h1 => by obtain rfl := h0; exact (zmul_any _ _ _ _ (x.num * ((m2 : Nat) : Int)) _ (k0z.drew.below hb) h1 (Nat.le_trans lx1 (by decide)) (Nat.le_trans lzb (by decide)) rfl).mono fun e w3 h => RetZ.pi h)) ?_
        refine And.intro (ob_fieldAddr rfl (wt_none rfl) (ev_far rfl rfl) (fun _ => by kernel_rfl) (fun _ => rfl)) ?_
        refine And.intro (ob_load rfl (wt_none rfl) (ev_dep (j := 5) (by kernel_rfl) rfl rfl) (fun w2 hb => run_loadPart Tryz.underlying26 rfl (by kernel_rfl) (B1.drew.below hb) rfl) (fun _ _ => rfl)) ?_
        refine And.intro (ob_move rfl (wt_none rfl) (ev_far rfl rfl) (fun _ _ h => h)) ?_
        refine And.intro (ob_call1 rfl Tryz.func59 (by kernel_rfl) (wt_none rfl) (ev_dep (j := 7) (by kernel_rfl) rfl rfl) (fun w2 u0 hb h0 => by obtain rfl := h0; exact unsigned_pd _ (m1) _ (n6.drew.below hb))) ?_
        refine And.intro (ob_call2 rfl Tryz.func58 (by kernel_rfl) (wt_none rfl) (ev_dep (j := 6) (by kernel_rfl) rfl rfl) (ev_dep (j := 8) (by kernel_rfl) rfl rfl) (fun w2 u0 u1 hb h0 h1 => by obtain rfl := h0; exact (zmul_any _ _ _ _ (y.num * ((m1 : Nat) : Int)) _ (k1z.drew.below hb) h1 (Nat.le_trans ly1 (by decide)) (Nat.le_trans lza (by decide)) rfl).mono fun e w3 h => RetZ.pi h)) ?_
        refine And.intro (ob_call2 rfl Tryz.func57 (by kernel_rfl) (wt_none rfl) (ev_dep (j := 4) (by kernel_rfl) rfl rfl) (ev_dep (j := 9) (by kernel_rfl) rfl rfl) (fun w2 u0 u1 hb h0 h1 => by exact (HS.out ▸ zadd_any _ _ _ _ _ h0 h1 (Nat.le_trans lp (by decide)) (Nat.le_trans lq (by decide))).mono fun e w3 h => RetZ.pd h hb.size)) ?_
        refine And.intro (ob_alloc (z := .agg #[.bool false, .slice none 0 0]) rfl rfl (fun _ => by kernel_rfl) (fun _ _ hB h => ⟨_, rfl, hB, h⟩)) ?_
        trivial
      case done39 =>
        refine fun w4 hb4 v0 h0 v1 h1 v2 h2 v3 h3 v4 h4 v5 h5 v6 h6 v7 h7 v8 h8 v9 h9 v10 h10 v11 h11 d11 b hbf => ?_
        obtain rfl := h0; obtain rfl := h1; obtain rfl := h2; obtain rfl := h5; obtain rfl := h6; obtain rfl := h7
        have q3 := h3
        have q4 := h4
        have q8 := h8
        have q9 := h9
        obtain ⟨q10, f10⟩ := h10
        obtain ⟨g39_11, rfl, hg11, B11⟩ := h11
        simp only [Act.put, List.setIfInBounds_toArray, List.set_cons_zero, List.set_cons_succ] at hbf
        subst hbf
        replace B0 := B0.below hb4
        replace k0s := k0s.below hb4
        replace k0d := k0d.below hb4
        replace k0z := k0z.below hb4
        replace k0 := k0.below hb4
        replace B1 := B1.below hb4
        replace k1s := k1s.below hb4
        replace k1d := k1d.below hb4
        replace k1z := k1z.below hb4
        replace k1 := k1.below hb4
        replace BR0 := BR0.below hb4
        replace kg := kg.below hb4
        replace n6 := n6.below hb4
        replace n8 := n8.below hb4
        replace bb := bb.trans (hb4.mono bb.size)
        have hsz4 := bb.size
        have s_10 := sB
        have BA10 := B11
        obtain ⟨u10, rfl, q10⟩ := q10
        obtain ⟨A10, c10, rfl, _⟩ := id q10
        refine any_store (i := 12) (by kernel_rfl) rfl rfl rfl rfl rfl rfl (cells := [.bool (ngB S), .slice A10 (digs 4294967296 (S).natAbs).length c10]) rfl BA10 rfl (by kernel_rfl) (one2 rfl rfl) fun w5 hg5 BN5 => ?_
        replace q10 := off q10 BA10 no_ints2 hg5
        replace kg := off kg BA10 no_ints2 hg5
        replace n6 := off n6 BA10 no_ints2 hg5
        replace n8 := off n8 BA10 no_ints2 hg5
        replace k0s := off k0s BA10 no_ints2 hg5
        replace k0d := off k0d BA10 no_ints2 hg5
        replace k0z : IsZ w5 (.agg #[.bool (ngB (x).num), .slice A0 (digs 4294967296 (x).num.natAbs).length c0]) ((x).num) := ⟨_, rfl, k0s⟩
        replace k0 : IsQ w5 (.agg #[.bool (ngB (x).num), .slice A0 (digs 4294967296 (x).num.natAbs).length c0, .slice D0 (digs 4294967296 (x).den).length e0]) (x) := ⟨_, _, rfl, k0s, k0d⟩
        replace B0 := B0.grown hg5 (by omega)
        replace k1s := off k1s BA10 no_ints2 hg5
        replace k1d := off k1d BA10 no_ints2 hg5
        replace k1z : IsZ w5 (.agg #[.bool (ngB (y).num), .slice A1 (digs 4294967296 (y).num.natAbs).length c1]) ((y).num) := ⟨_, rfl, k1s⟩
        replace k1 : IsQ w5 (.agg #[.bool (ngB (y).num), .slice A1 (digs 4294967296 (y).num.natAbs).length c1, .slice D1 (digs 4294967296 (y).den).length e1]) (y) := ⟨_, _, rfl, k1s, k1d⟩
        replace B1 := B1.grown hg5 (by omega)
        replace BR0 := BR0.grown hg5 (by omega)
        replace bb := bb.trans ((Below.refl _ _).grown hg5 bb.size (fun g hg => by injection hg with hg; omega))
        have hsz5 := bb.size
        have B10 : Blk w5 (g39_11) _ _ := BN5
        have k10s := q10
        have k10 : IsZ w5 (.agg #[.bool (ngB S), .slice A10 (digs 4294967296 (S).natAbs).length c10]) (S) := ⟨_, rfl, k10s⟩
        refine any_done (by kernel_rfl) ?_
        have sB := bb.size
        go_upto_region 5 with (fail)
        have lt5_2 := Blk.lt B0
        have lt5_3 := Blk.lt B1
        have lt5_4 := Blk.lt BR0
        have lt5_10 := Blk.lt B10
        refine flowp 7 [Pd.eq (.agg #[.bool (ngB S), .slice A10 (digs 4294967296 (S).natAbs).length c10]), Pd.eq (.slice Akg (digs 4294967296 G).length ckg), pzs (U) (L) w5.heap.size, pzs (U) (L) w5.heap.size, pz (U) w5.heap.size, ps .u64 (digs 4294967296 L) w5.heap.size, pn 26 #[.bool false, .slice none 0 0] w5.heap.size] (by kernel_rfl) ?ob40 ?done40
        case ob40 =>
          refine And.intro (ob_load rfl (wt_none rfl) (ev_far rfl rfl) (fun w2 hb => run_loadAll Tryz.underlying26 rfl (by kernel_rfl) (B10.below hb)) (fun _ _ => rfl)) ?_
          refine And.intro (ob_move rfl (wt_none rfl) (ev_far rfl rfl) (fun _ _ h => h)) ?_
          refine And.intro (ob_call2 rfl Tryz.func60 (by kernel_rfl) (wt_none rfl) (ev_dep (j := 0) (by kernel_rfl) rfl rfl) (ev_dep (j := 1) (by kernel_rfl) rfl rfl) (fun w2 u0 u1 hb h0 h1 => by obtain rfl := h0; obtain rfl := h1; exact (reduced_any _ S _ G U L _ (k10.below hb) (kg.below hb) HGn.out (Nat.le_trans lS (by decide)) (Nat.le_trans lG (by decide)) HU.out HL.out).mono fun e w3 h => RetZS.pd h hb.size)) ?_
          refine And.intro (ob_move rfl (wt_none rfl) (ev_dep (j := 2) (by kernel_rfl) rfl rfl) (fun _ _ h => h)) ?_
          refine And.intro (ob_extract rfl (wt_none rfl) (ev_dep (j := 3) (by kernel_rfl) rfl rfl) (fun w2 u hu => by obtain ⟨v, u, rfl, q1, q2, q3, q4⟩ := hu; exact ⟨v, rfl, q1, q3⟩)) ?_
          refine And.intro (ob_extract rfl (wt_none rfl) (ev_dep (j := 3) (by kernel_rfl) rfl rfl) (fun w2 u hu => by obtain ⟨v, u, rfl, q1, q2, q3, q4⟩ := hu; exact ⟨u, rfl, q2, q4⟩)) ?_
          refine And.intro (ob_alloc (z := .agg #[.bool false, .slice none 0 0]) rfl rfl (fun _ => by kernel_rfl) (fun _ _ hB h => ⟨_, rfl, hB, h⟩)) ?_
          trivial
        case done40 =>
          refine fun w6 hb6 v0 h0 v1 h1 v2 h2 v3 h3 v4 h4 v5 h5 v6 h6 d6 b hbf => ?_
          obtain rfl := h0; obtain rfl := h1
          clear h2
          clear h3
          obtain ⟨q4, f4⟩ := h4
          obtain ⟨q5, f5⟩ := h5
          obtain ⟨g40_6, rfl, hg6, B6⟩ := h6
          simp only [Act.put, List.setIfInBounds_toArray, List.set_cons_zero, List.set_cons_succ] at hbf
          subst hbf
          replace B0 := B0.below hb6
          replace k0s := k0s.below hb6
          replace k0d := k0d.below hb6
          replace k0z := k0z.below hb6
          replace k0 := k0.below hb6
          replace B1 := B1.below hb6
          replace k1s := k1s.below hb6
          replace k1d := k1d.below hb6
          replace k1z := k1z.below hb6
          replace k1 := k1.below hb6
          replace BR0 := BR0.below hb6
          replace B10 := B10.below hb6
          replace k10s := k10s.below hb6
          replace k10 := k10.below hb6
          replace kg := kg.below hb6
          replace n6 := n6.below hb6
          replace n8 := n8.below hb6
          replace bb := bb.trans (hb6.mono bb.size)
          have hsz6 := bb.size
          have s_4 := sB
          have s_5 := sB
          obtain ⟨A49, c49, rfl, _⟩ := id q5
          have n49 := q5
          have n49f := f5
          have n49z_ := s_5
          have BA11 := B6
          obtain ⟨u4, rfl, q4⟩ := q4
          obtain ⟨A11, c11, rfl, _⟩ := id q4
          refine ops_store (i := 7) rfl rfl rfl rfl rfl rfl (cells := [.bool (ngB U), .slice A11 (digs 4294967296 (U).natAbs).length c11]) rfl BA11 rfl (by kernel_rfl) (one2 rfl rfl) fun w7 hg7 BN7 => ?_
          replace q4 := off q4 BA11 no_ints2 hg7
          replace kg := off kg BA11 no_ints2 hg7
          replace n6 := off n6 BA11 no_ints2 hg7
          replace n8 := off n8 BA11 no_ints2 hg7
          replace n49 := off n49 BA11 no_ints2 hg7
          replace k0s := off k0s BA11 no_ints2 hg7
          replace k0d := off k0d BA11 no_ints2 hg7
          replace k0z : IsZ w7 (.agg #[.bool (ngB (x).num), .slice A0 (digs 4294967296 (x).num.natAbs).length c0]) ((x).num) := ⟨_, rfl, k0s⟩
          replace k0 : IsQ w7 (.agg #[.bool (ngB (x).num), .slice A0 (digs 4294967296 (x).num.natAbs).length c0, .slice D0 (digs 4294967296 (x).den).length e0]) (x) := ⟨_, _, rfl, k0s, k0d⟩
          replace B0 := B0.grown hg7 (by omega)
          replace k1s := off k1s BA11 no_ints2 hg7
          replace k1d := off k1d BA11 no_ints2 hg7
          replace k1z : IsZ w7 (.agg #[.bool (ngB (y).num), .slice A1 (digs 4294967296 (y).num.natAbs).length c1]) ((y).num) := ⟨_, rfl, k1s⟩
          replace k1 : IsQ w7 (.agg #[.bool (ngB (y).num), .slice A1 (digs 4294967296 (y).num.natAbs).length c1, .slice D1 (digs 4294967296 (y).den).length e1]) (y) := ⟨_, _, rfl, k1s, k1d⟩
          replace B1 := B1.grown hg7 (by omega)
          replace BR0 := BR0.grown hg7 (by omega)
          replace k10s := off k10s BA11 no_ints2 hg7
          replace k10 : IsZ w7 (.agg #[.bool (ngB S), .slice A10 (digs 4294967296 (S).natAbs).length c10]) (S) := ⟨_, rfl, k10s⟩
          replace B10 := B10.grown hg7 (by omega)
          replace bb := bb.trans ((Below.refl _ _).grown hg7 bb.size (fun g hg => by injection hg with hg; omega))
          have hsz7 := bb.size
          have B11 : Blk w7 (g40_6) _ _ := BN7
          have k11s := q4
          have k11 : IsZ w7 (.agg #[.bool (ngB U), .slice A11 (digs 4294967296 (U).natAbs).length c11]) (U) := ⟨_, rfl, k11s⟩
          refine ops_assign (i := 8) (.slice A49 (digs 4294967296 L).length c49) rfl rfl rfl rfl rfl fun b hbf => ?_
          simp only [Act.put, List.setIfInBounds_toArray, List.set_cons_zero, List.set_cons_succ] at hbf
          subst hbf
          refine ops_done ?_
          have f11_ := (f4 _ _ rfl).mono s_4
          have sB := bb.size
          go_upto_region 6 with (fail)
          refine flow 7 [Pd.eq (.agg #[.bool (ngB U), .slice A11 (digs 4294967296 (U).natAbs).length c11]), Pd.eq (.slice A6 (digs 4294967296 m1).length c6), Pd.eq (.slice A8 (digs 4294967296 m2).length c8), ps .u64 (digs 4294967296 (m1 * m2)) w7.heap.size, Pd.eq (.slice A49 (digs 4294967296 L).length c49), ps .u64 (digs 4294967296 ((m1 * m2) * L)) w7.heap.size, pbq (ngB U) (.slice A11 (digs 4294967296 (U).natAbs).length c11) (digs 4294967296 ((m1 * m2) * L)) w7.heap.size] (by kernel_rfl) (by kernel_rfl) ?ob41 ?done41
          case ob41 =>
            refine And.intro (ob_load rfl (wt_none rfl) (ev_far rfl rfl) (fun w2 hb => run_loadAll Tryz.underlying26 rfl (by kernel_rfl) (B11.drew.below hb)) (fun _ _ => rfl)) ?_
            refine And.intro (ob_move rfl (wt_none rfl) (ev_far rfl rfl) (fun _ _ h => h)) ?_
            refine And.intro (ob_move rfl (wt_none rfl) (ev_far rfl rfl) (fun _ _ h => h)) ?_
            refine And.intro (ob_call2 rfl Tryz.func61 (by kernel_rfl) (wt_none rfl) (ev_dep (j := 1) (by kernel_rfl) rfl rfl) (ev_dep (j := 2) (by kernel_rfl) rfl rfl) (fun w2 u0 u1 hb h0 h1 => by obtain rfl := h0; obtain rfl := h1; exact (times_any _ m1 _ m2 _ (n6.drew.below hb) (n8.drew.below hb) (Nat.le_trans la (by decide)) (Nat.le_trans lb (by decide))).mono fun e w3 h => RetS.pd h hb.size)) ?_
            refine And.intro (ob_move rfl (wt_none rfl) (ev_far rfl rfl) (fun _ _ h => h)) ?_
            refine And.intro (ob_call2 rfl Tryz.func61 (by kernel_rfl) (wt_none rfl) (ev_dep (j := 3) (by kernel_rfl) rfl rfl) (ev_dep (j := 4) (by kernel_rfl) rfl rfl) (fun w2 u0 u1 hb h0 h1 => by obtain rfl := h1; exact (times_any _ (m1 * m2) _ L _ h0.1 (n49.drew.below hb) (Nat.le_trans lab (by decide)) (Nat.le_trans lL (by decide))).mono fun e w3 h => RetS.pd h hb.size)) ?_
            refine And.intro (ob_build2b rfl (wt_none rfl) (ev_dep (j := 0) (by kernel_rfl) rfl rfl) (ev_dep (j := 5) (by kernel_rfl) rfl rfl) (fun w2 u v hb hu hv => by obtain rfl := hu; obtain ⟨A7, c7, rfl, _⟩ := id hv.1; exact ⟨.agg #[.bool (ngB U), .slice A11 (digs 4294967296 (U).natAbs).length c11, .slice A7 (digs 4294967296 ((m1 * m2) * L)).length c7], by kernel_rfl, ⟨A7, c7, rfl, hv.1, hv.2⟩⟩)) ?_
            trivial
          case done41 =>
            refine fun w8 hb8 v0 h0 v1 h1 v2 h2 v3 h3 v4 h4 v5 h5 v6 h6 b hbf => ?_
            obtain rfl := h0; obtain rfl := h1; obtain rfl := h2; obtain rfl := h4
            obtain ⟨q3, f3⟩ := h3
            obtain ⟨q5, f5⟩ := h5
            have q6 := h6; have s9_ := sB
            simp only [Act.put, List.setIfInBounds_toArray, List.set_cons_zero, List.set_cons_succ] at hbf
            subst hbf
            replace B0 := B0.below hb8
            replace k0s := k0s.below hb8
            replace k0d := k0d.below hb8
            replace k0z := k0z.below hb8
            replace k0 := k0.below hb8
            replace B1 := B1.below hb8
            replace k1s := k1s.below hb8
            replace k1d := k1d.below hb8
            replace k1z := k1z.below hb8
            replace k1 := k1.below hb8
            replace BR0 := BR0.below hb8
            replace B10 := B10.below hb8
            replace k10s := k10s.below hb8
            replace k10 := k10.below hb8
            replace B11 := B11.below hb8
            replace k11s := k11s.below hb8
            replace k11 := k11.below hb8
            replace kg := kg.below hb8
            replace n6 := n6.below hb8
            replace n8 := n8.below hb8
            replace n49 := n49.below hb8
            replace bb := bb.trans (hb8.mono bb.size)
            have hsz8 := bb.size
            have s_3 := sB
            have s_5 := sB
            obtain ⟨A9, c9, rfl, q9, f9⟩ := q6
            refine any_store (i := 7) (by kernel_rfl) rfl rfl rfl rfl rfl rfl (cells := [.bool (ngB U), .slice A11 (digs 4294967296 (U).natAbs).length c11, .slice A9 (digs 4294967296 ((m1 * m2) * L)).length c9]) rfl BR0 rfl (by kernel_rfl) (one3 rfl rfl rfl) fun w9 hg9 B9 => ?_
            have k9 := off k11s BR0 no_ints3 hg9
            have d9 := off q9 BR0 no_ints3 hg9
            have bb9 := bb.trans ((Below.refl _ _).grown hg9 bb.size (fun g hg => by injection hg with hg; omega))
            obtain ⟨C0, C1, C2, _, _, _⟩ := three B9
            refine any_done (by kernel_rfl) ?_
            go_wp2
            rw [HQ0.out]
            exact bodyPost_ret (v := .agg #[.bool (ngB U), .slice A11 (digs 4294967296 (U).natAbs).length c11, .slice A9 (digs 4294967296 ((m1 * m2) * L)).length c9]) (by simp [results, Tryz.results31, go_sem, C0, C1, C2]) rfl ⟨_, rfl, isQ_mk k9 d9 (by rw [HQN.out]) (by rw [HQN.out]) HQD.out, freshQ_mk f11_ (f9.mono s9_), bb9⟩
set_option maxHeartbeats 1600000 in
set_option maxRecDepth 100000 in
theorem sub8_any (a0 : Value) (x : Rat) (a1 : Value) (y : Rat) (w : World) (h0 : IsQ w a0 x) (h1 : IsQ w a1 y) (hl : lenQ x 1000) (hl2 : lenQ y 1000) :
    Calls Tryz.prog 34 #[a0, a1] w (RetQ (x - y) w) := by
  obtain ⟨u0, t0, rfl, s0, r0⟩ := h0
  obtain ⟨A0, c0, rfl, _⟩ := id s0
  obtain ⟨D0, e0, rfl, _⟩ := id r0
  obtain ⟨u1, t1, rfl, s1, r1⟩ := h1
  obtain ⟨A1, c1, rfl, _⟩ := id s1
  obtain ⟨D1, e1, rfl, _⟩ := id r1
  have HS : Hid (x + -y = x - y) := (Rat.sub_eq_add_neg x y).symm
  go_enter Tryz.func34, Tryz.ntmps34
  go_upto_region 1 with (fail)
  obtain ⟨wx, hwx, bb, B0, B1, BR0, hsz⟩ := vars3 w 28 28 28 #[.bool (ngB (x).num), .slice A0 (digs 4294967296 (x).num.natAbs).length c0, .slice D0 (digs 4294967296 (x).den).length e0] #[.bool (ngB (y).num), .slice A1 (digs 4294967296 (y).num.natAbs).length c1, .slice D1 (digs 4294967296 (y).den).length e1] #[.bool false, .slice none 0 0, .slice none 0 0]
  rw [hwx]
  clear hwx
  have k0s := s0.below bb
  have k0d := r0.below bb
  have k0z : IsZ wx (.agg #[.bool (ngB (x).num), .slice A0 (digs 4294967296 (x).num.natAbs).length c0]) (x).num := ⟨_, rfl, k0s⟩
  have k0 : IsQ wx (.agg #[.bool (ngB (x).num), .slice A0 (digs 4294967296 (x).num.natAbs).length c0, .slice D0 (digs 4294967296 (x).den).length e0]) (x) := ⟨_, _, rfl, k0s, k0d⟩
  have k1s := s1.below bb
  have k1d := r1.below bb
  have k1z : IsZ wx (.agg #[.bool (ngB (y).num), .slice A1 (digs 4294967296 (y).num.natAbs).length c1]) (y).num := ⟨_, rfl, k1s⟩
  have k1 : IsQ wx (.agg #[.bool (ngB (y).num), .slice A1 (digs 4294967296 (y).num.natAbs).length c1, .slice D1 (digs 4294967296 (y).den).length e1]) (y) := ⟨_, _, rfl, k1s, k1d⟩
  have hsz0 := bb.size
  have sB := bb.size
  refine flow 4 [Pd.eq (.agg #[.bool (ngB (x).num), .slice A0 (digs 4294967296 (x).num.natAbs).length c0, .slice D0 (digs 4294967296 (x).den).length e0]), Pd.eq (.agg #[.bool (ngB (y).num), .slice A1 (digs 4294967296 (y).num.natAbs).length c1, .slice D1 (digs 4294967296 (y).den).length e1]), pq (-y) wx.heap.size, pq (x - y) wx.heap.size] (by kernel_rfl) (by kernel_rfl) ?ob42 ?done42
  case ob42 =>
    refine And.intro (ob_load rfl (wt_none rfl) (ev_far rfl rfl) (fun w2 hb => run_loadAll Tryz.underlying28 rfl (by kernel_rfl) (B0.drew.below hb)) (fun _ _ => rfl)) ?_
    refine And.intro (ob_load rfl (wt_none rfl) (ev_far rfl rfl) (fun w2 hb => run_loadAll Tryz.underlying28 rfl (by kernel_rfl) (B1.drew.below hb)) (fun _ _ => rfl)) ?_
    refine And.intro (ob_call1 rfl Tryz.func63 (by kernel_rfl) (wt_none rfl) (ev_dep (j := 1) (by kernel_rfl) rfl rfl) (fun w2 u0 hb h0 => by obtain rfl := h0; exact (neg8_any _ y _ (k1.drew.below hb) (hl2.mono (by decide))).mono fun e w3 h => RetQ.pd h hb.size)) ?_
    refine And.intro (ob_call2 rfl Tryz.func31 (by kernel_rfl) (wt_none rfl) (ev_dep (j := 0) (by kernel_rfl) rfl rfl) (ev_dep (j := 2) (by kernel_rfl) rfl rfl) (fun w2 u0 u1 hb h0 h1 => by obtain rfl := h0; exact (HS.out ▸ add8_any _ x _ (-y) _ (k0.drew.below hb) h1.1 hl (lenQ_neg hl2)).mono fun e w3 h => RetQ.pd h hb.size)) ?_
    trivial
  case done42 =>
    refine fun w11 hb11 v0 h0 v1 h1 v2 h2 v3 h3 b hbf => ?_
    obtain rfl := h0; obtain rfl := h1
    obtain ⟨q2, f2⟩ := h2
    obtain ⟨q3, f3⟩ := h3
    simp only [Act.put, List.setIfInBounds_toArray, List.set_cons_zero, List.set_cons_succ] at hbf
    subst hbf
    replace B0 := B0.below hb11
    replace k0s := k0s.below hb11
    replace k0d := k0d.below hb11
    replace k0z := k0z.below hb11
    replace k0 := k0.below hb11
    replace B1 := B1.below hb11
    replace k1s := k1s.below hb11
    replace k1d := k1d.below hb11
    replace k1z := k1z.below hb11
    replace k1 := k1.below hb11
    replace BR0 := BR0.below hb11
    replace bb := bb.trans (hb11.mono bb.size)
    have hsz11 := bb.size
    have s_2 := sB
    have s_3 := sB
    obtain ⟨u3, t3, rfl, q3, d3⟩ := q3
    obtain ⟨A9, c9, rfl, _⟩ := id q3
    obtain ⟨D9, e9, rfl, _⟩ := id d3
    refine any_store (i := 4) (by kernel_rfl) rfl rfl rfl rfl rfl rfl (cells := [.bool (ngB (x - y).num), .slice A9 (digs 4294967296 (x - y).num.natAbs).length c9, .slice D9 (digs 4294967296 (x - y).den).length e9]) rfl BR0 rfl (by kernel_rfl) (one3 rfl rfl rfl) fun w9 hg9 B9 => ?_
    have k9 := off q3 BR0 no_ints3 hg9
    have d9 := off d3 BR0 no_ints3 hg9
    have f9 := f3.mono (show w.heap.size ≤ _ from s_3)
    have bb9 := bb.trans ((Below.refl _ _).grown hg9 bb.size (fun g hg => by injection hg with hg; omega))
    obtain ⟨C0, C1, C2, _, _, _⟩ := three B9
    refine any_done (by kernel_rfl) ?_
    go_wp2
    exact bodyPost_ret (v := .agg #[.bool (ngB (x - y).num), .slice A9 (digs 4294967296 (x - y).num.natAbs).length c9, .slice D9 (digs 4294967296 (x - y).den).length e9]) (by simp [results, Tryz.results34, go_sem, C0, C1, C2]) rfl ⟨_, rfl, ⟨_, _, rfl, k9, d9⟩, f9, bb9⟩
set_option maxHeartbeats 1600000 in
set_option maxRecDepth 100000 in
theorem cmp8_any (a0 a1 : Value) (x y : Rat) (t : Int) (w : World) (h0 : IsQ w a0 x) (h1 : IsQ w a1 y) (hl : lenQ x 100000) (hl2 : lenQ y 100000) (ht : t = ordq x y) :
    Calls Tryz.prog 42 #[a0, a1] w (RetV (.int .i64 t) w) := by
  obtain ⟨u0, t0, rfl, s0, r0⟩ := h0
  obtain ⟨A0, c0, rfl, _⟩ := id s0
  obtain ⟨D0, e0, rfl, _⟩ := id r0
  obtain ⟨u1, t1, rfl, s1, r1⟩ := h1
  obtain ⟨A1, c1, rfl, _⟩ := id s1
  obtain ⟨D1, e1, rfl, _⟩ := id r1
  have HT : Hid (t = ordz (x.num * ((y.den : Nat) : Int)) (y.num * ((x.den : Nat) : Int))) := by show _ = _; rw [ht, ordq_cross]
  clear ht
  have lx1 := hl.1
  have ly1 := hl2.1
  have lx2 : lenZ ((x.den : Nat) : Int) ≤ 100000 := by rw [lenD]; exact hl.2
  have ly2 : lenZ ((y.den : Nat) : Int) ≤ 100000 := by rw [lenD]; exact hl2.2
  go_enter Tryz.func42, Tryz.ntmps42
  go_upto_region 1 with (fail)
  obtain ⟨wx, hwx, bb, B0, B1, hsz⟩ := vars2 w 28 28 #[.bool (ngB (x).num), .slice A0 (digs 4294967296 (x).num.natAbs).length c0, .slice D0 (digs 4294967296 (x).den).length e0] #[.bool (ngB (y).num), .slice A1 (digs 4294967296 (y).num.natAbs).length c1, .slice D1 (digs 4294967296 (y).den).length e1]
  rw [hwx]
  clear hwx
  have k0s := s0.below bb
  have k0d := r0.below bb
  have k0z : IsZ wx (.agg #[.bool (ngB (x).num), .slice A0 (digs 4294967296 (x).num.natAbs).length c0]) (x).num := ⟨_, rfl, k0s⟩
  have k0 : IsQ wx (.agg #[.bool (ngB (x).num), .slice A0 (digs 4294967296 (x).num.natAbs).length c0, .slice D0 (digs 4294967296 (x).den).length e0]) (x) := ⟨_, _, rfl, k0s, k0d⟩
  have k1s := s1.below bb
  have k1d := r1.below bb
  have k1z : IsZ wx (.agg #[.bool (ngB (y).num), .slice A1 (digs 4294967296 (y).num.natAbs).length c1]) (y).num := ⟨_, rfl, k1s⟩
  have k1 : IsQ wx (.agg #[.bool (ngB (y).num), .slice A1 (digs 4294967296 (y).num.natAbs).length c1, .slice D1 (digs 4294967296 (y).den).length e1]) (y) := ⟨_, _, rfl, k1s, k1d⟩
  have hsz0 := bb.size
  have sB := bb.size
  refine flow 14 [Pd.eq (.pointer (some ⟨w.heap.size, 0, none⟩)), Pd.eq (.agg #[.bool (ngB (x).num), .slice A0 (digs 4294967296 (x).num.natAbs).length c0]), Pd.eq (.pointer (some ⟨w.heap.size + 1, 2, none⟩)), Pd.eq (.slice D1 (digs 4294967296 (y).den).length e1), pi ((((y).den : Nat) : Int)), pi ((x.num * ((y.den : Nat) : Int))), Pd.eq (.pointer (some ⟨w.heap.size + 1, 0, none⟩)), Pd.eq (.agg #[.bool (ngB (y).num), .slice A1 (digs 4294967296 (y).num.natAbs).length c1]), Pd.eq (.pointer (some ⟨w.heap.size, 2, none⟩)), Pd.eq (.slice D0 (digs 4294967296 (x).den).length e0), pi ((((x).den : Nat) : Int)), pi ((y.num * ((x.den : Nat) : Int))), Pd.eq (.int .i64 t), Pd.eq (.int .i64 t)] (by kernel_rfl) (by kernel_rfl) ?ob43 ?done43
  case ob43 =>
    refine And.intro (ob_fieldAddr rfl (wt_none rfl) (ev_far rfl rfl) (fun _ => by kernel_rfl) (fun _ => rfl)) ?_
    refine And.intro (ob_load rfl (wt_none rfl) (ev_dep (j := 0) (by kernel_rfl) rfl rfl) (fun w2 hb => run_loadPart Tryz.underlying26 rfl (by kernel_rfl) (B0.drew.below hb) rfl) (fun _ _ => rfl)) ?_
    refine And.intro (ob_fieldAddr rfl (wt_none rfl) (ev_far rfl rfl) (fun _ => by kernel_rfl) (fun _ => rfl)) ?_
    refine And.intro (ob_load rfl (wt_none rfl) (ev_dep (j := 2) (by kernel_rfl) rfl rfl) (fun w2 hb => run_load1 Tryz.underlying24 rfl ((B1.drew.below hb).cell 2)) (fun _ _ => rfl)) ?_
    refine And.intro (ob_call1 rfl Tryz.func59 (by kernel_rfl) (wt_none rfl) (ev_dep (j := 3) (by kernel_rfl) rfl rfl) (fun w2 u0 hb h0 => by obtain rfl := h0; exact unsigned_pd _ ((y).den) _ (k1d.drew.below hb))) ?_
    refine And.intro (ob_call2 rfl Tryz.func58 (by kernel_rfl) (wt_none rfl) (ev_dep (j := 1) (by kernel_rfl) rfl rfl) (ev_dep (j := 4) (by kernel_rfl) rfl rfl) (fun w2 u0 u1 hb h0 h1 => by obtain rfl := h0; exact (zmul_any _ _ _ _ (x.num * ((y.den : Nat) : Int)) _ (k0z.drew.below hb) h1 lx1 ly2 rfl).mono fun e w3 h => RetZ.pi h)) ?_
    refine And.intro (ob_fieldAddr rfl (wt_none rfl) (ev_far rfl rfl) (fun _ => by kernel_rfl) (fun _ => rfl)) ?_
    refine And.intro (ob_load rfl (wt_none rfl) (ev_dep (j := 6) (by kernel_rfl) rfl rfl) (fun w2 hb => run_loadPart Tryz.underlying26 rfl (by kernel_rfl) (B1.drew.below hb) rfl) (fun _ _ => rfl)) ?_
    refine And.intro (ob_fieldAddr rfl (wt_none rfl) (ev_far rfl rfl) (fun _ => by kernel_rfl) (fun _ => rfl)) ?_
    refine And.intro (ob_load rfl (wt_none rfl) (ev_dep (j := 8) (by kernel_rfl) rfl rfl) (fun w2 hb => run_load1 Tryz.underlying24 rfl ((B0.drew.below hb).cell 2)) (fun _ _ => rfl)) ?_
    refine And.intro (ob_call1 rfl Tryz.func59 (by kernel_rfl) (wt_none rfl) (ev_dep (j := 9) (by kernel_rfl) rfl rfl) (fun w2 u0 hb h0 => by obtain rfl := h0; exact unsigned_pd _ ((x).den) _ (k0d.drew.below hb))) ?_
    refine And.intro (ob_call2 rfl Tryz.func58 (by kernel_rfl) (wt_none rfl) (ev_dep (j := 7) (by kernel_rfl) rfl rfl) (ev_dep (j := 10) (by kernel_rfl) rfl rfl) (fun w2 u0 u1 hb h0 h1 => by obtain rfl := h0; exact (zmul_any _ _ _ _ (y.num * ((x.den : Nat) : Int)) _ (k1z.drew.below hb) h1 ly1 lx2 rfl).mono fun e w3 h => RetZ.pi h)) ?_
    refine And.intro (ob_call2 rfl Tryz.func70 (by kernel_rfl) (wt_none rfl) (ev_dep (j := 5) (by kernel_rfl) rfl rfl) (ev_dep (j := 11) (by kernel_rfl) rfl rfl) (fun w2 u0 u1 hb h0 h1 => by exact (zcmp_any _ _ _ _ t _ h0 h1 HT.out).mono fun e w3 h => RetV.pd h)) ?_
    refine And.intro (ob_assign rfl (wt_none rfl) (ev_dep (j := 12) (by kernel_rfl) rfl rfl) (fun _ _ h => h)) ?_
    trivial
  case done43 =>
    refine fun w1 hb1 v0 h0 v1 h1 v2 h2 v3 h3 v4 h4 v5 h5 v6 h6 v7 h7 v8 h8 v9 h9 v10 h10 v11 h11 v12 h12 v13 h13 b hbf => ?_
    obtain rfl := h0; obtain rfl := h1; obtain rfl := h2; obtain rfl := h3; obtain rfl := h6; obtain rfl := h7; obtain rfl := h8; obtain rfl := h9; obtain rfl := h12; obtain rfl := h13
    have q4 := h4
    have q5 := h5
    have q10 := h10
    have q11 := h11
    simp only [Act.put, List.setIfInBounds_toArray, List.set_cons_zero, List.set_cons_succ] at hbf
    subst hbf
    replace B0 := B0.below hb1
    replace k0s := k0s.below hb1
    replace k0d := k0d.below hb1
    replace k0z := k0z.below hb1
    replace k0 := k0.below hb1
    replace B1 := B1.below hb1
    replace k1s := k1s.below hb1
    replace k1d := k1d.below hb1
    replace k1z := k1z.below hb1
    replace k1 := k1.below hb1
    replace bb := bb.trans (hb1.mono bb.size)
    have hsz1 := bb.size
    refine any_done (by kernel_rfl) ?_
    go_wp2
    go_ret
    exact ⟨rfl, bb⟩
set_option maxHeartbeats 1600000 in
set_option maxRecDepth 100000 in
theorem of8_any (n : Int) (w : World) (h1 : -9223372036854775808 ≤ n) (h2 : n ≤ 9223372036854775807) :
    Calls Tryz.prog 37 #[.int .i64 n] w (RetQ (n : Rat) w) := by
  obtain ⟨Q, hQ⟩ : ∃ Q, Q = (n : Rat) := ⟨_, rfl⟩
  have HQ0 : Hid ((n : Rat) = Q) := hQ.symm
  have HQN : Hid (Q.num = n) := by show _ = _; rw [hQ]; exact Rat.num_intCast n
  have HQD : Hid (Q.den = 1) := by show _ = _; rw [hQ]; exact Rat.den_intCast n
  clear hQ
  go_enter Tryz.func37, Tryz.ntmps37
  go_upto_region 1 with (fail)
  obtain ⟨wx, hwx, bb, BR0, hsz⟩ := vars1 w 28 #[.bool false, .slice none 0 0, .slice none 0 0]
  rw [hwx]
  clear hwx
  have hsz0 := bb.size
  have sB := bb.size
  refine flowp 4 [Pd.eq (.int .i64 n), pz ((Q).num) wx.heap.size, ps .u64 (digs 4294967296 (Q).den) wx.heap.size, pq (Q) wx.heap.size] (by kernel_rfl) ?ob19 ?done19
  case ob19 =>
    refine And.intro (ob_move rfl (wt_none rfl) (ev_far rfl rfl) (fun _ _ h => h)) ?_
    refine And.intro (ob_call1 rfl Tryz.func66 (by kernel_rfl) (wt_none rfl) (ev_dep (j := 0) (by kernel_rfl) rfl rfl) (fun w2 u0 hb h0 => by obtain rfl := h0; exact (zof_any n _ h1 h2).mono fun e w3 h => RetZ.pd (RetZ.to h HQN.out.symm) hb.size)) ?_
    refine And.intro (ob_call1 rfl Tryz.func67 (by kernel_rfl) (wt_none rfl) (ev_const _) (fun w2 u0 hb h0 => by obtain rfl := h0; exact (of_any 1 1 _ rfl (by omega)).mono fun e w3 h => RetS.pd (RetS.to h (congrArg (digs 4294967296) HQD.out.symm)) hb.size)) ?_
    refine And.intro (ob_build2b rfl (wt_none rfl) (ev_dep (j := 1) (by kernel_rfl) rfl rfl) (ev_dep (j := 2) (by kernel_rfl) rfl rfl) (fun w2 u v hb hu hv => by obtain ⟨u7, rfl, hu7⟩ := hu.1; obtain ⟨A7, c7, rfl, _⟩ := id hu7; obtain ⟨A8, c8, rfl, _⟩ := id hv.1; exact ⟨.agg #[.bool (ngB (Q).num), .slice A7 (digs 4294967296 (Q).num.natAbs).length c7, .slice A8 (digs 4294967296 (Q).den).length c8], by kernel_rfl, ⟨⟨_, _, rfl, hu7, hv.1⟩, freshQ_mk (hu.2 _ _ rfl) hv.2⟩⟩)) ?_
    trivial
  case done19 =>
    refine fun w1 hb1 v0 h0 v1 h1 v2 h2 v3 h3 b hbf => ?_
    obtain rfl := h0
    obtain ⟨q1, f1⟩ := h1
    obtain ⟨q2, f2⟩ := h2
    obtain ⟨q3, f3⟩ := h3
    simp only [Act.put, List.setIfInBounds_toArray, List.set_cons_zero, List.set_cons_succ] at hbf
    subst hbf
    replace BR0 := BR0.below hb1
    replace bb := bb.trans (hb1.mono bb.size)
    have hsz1 := bb.size
    have s_1 := sB
    have s_2 := sB
    have s_3 := sB
    obtain ⟨u3, t3, rfl, q3, d3⟩ := q3
    obtain ⟨A9, c9, rfl, _⟩ := id q3
    obtain ⟨D9, e9, rfl, _⟩ := id d3
    refine ops_store (i := 4) rfl rfl rfl rfl rfl rfl (cells := [.bool (ngB (Q).num), .slice A9 (digs 4294967296 (Q).num.natAbs).length c9, .slice D9 (digs 4294967296 (Q).den).length e9]) rfl BR0 rfl (by kernel_rfl) (one3 rfl rfl rfl) fun w9 hg9 B9 => ?_
    have k9 := off q3 BR0 no_ints3 hg9
    have d9 := off d3 BR0 no_ints3 hg9
    have f9 := f3.mono (show w.heap.size ≤ _ from s_3)
    have bb9 := bb.trans ((Below.refl _ _).grown hg9 bb.size (fun g hg => by injection hg with hg; omega))
    obtain ⟨C0, C1, C2, _, _, _⟩ := three B9
    refine ops_done ?_
    go_wp2
    rw [HQ0.out]
    exact bodyPost_ret (v := .agg #[.bool (ngB (Q).num), .slice A9 (digs 4294967296 (Q).num.natAbs).length c9, .slice D9 (digs 4294967296 (Q).den).length e9]) (by simp [results, Tryz.results37, go_sem, C0, C1, C2]) rfl ⟨_, rfl, ⟨_, _, rfl, k9, d9⟩, f9, bb9⟩
end Go.Proofs.YtodpjmbclmlieaaGreat.rat
