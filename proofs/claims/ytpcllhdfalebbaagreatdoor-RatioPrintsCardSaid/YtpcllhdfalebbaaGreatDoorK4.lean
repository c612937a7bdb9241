/- The document's own fractions: Low. Condition: as each says.
The document's own Clean of fractions. Condition: as it says.
The document's own texts of fractions: number, ten. Condition: as each says.
A region that draws its order, some of whose operations may come behind the first store (moves of what stands ahead, len, min): they are taken first, for they yield in whatever world. No program stands here.
A region that draws its order, a chain of whose operations may come behind the first store (len, min and a cut of what was loaded): when all others are up, the rest of the chain is taken, for it yields in whatever world. No program stands here.
What RatMakes wants: a slice cut short, the least of two lengths. No program stands here.
Fractions: what the program reckons (sums over what the lower parts have in common, products put into lowest terms crosswise, the order by products). Mathematics alone.
Package rat: its own contracts, each said of fractions: what its functions stand on, Neg, Sign. Condition: as each says.
Texts in a region that draws its order: length, cuts, sums of two texts, each said of lists of bytes. Condition: as each says.
The document's own texts of fractions: Print. Condition: as it says.
The document's own texts of fractions: Decimal. Condition: as it says.
The document's own texts of fractions: Parse. Condition: as it says.
Package rat: its own contracts, each said of fractions: Inv, Mul, Div. Condition: as each says.
Package rat: its own contracts, each said of fractions: Make, Of, Frac. Condition: as each says. -/
import Derived.Test.YtpcllhdfalebbaaGreatDoorK3
namespace Go.Proofs.YtpcllhdfalebbaaGreatDoor.rat
open Go.RowKit Go.Proofs.YtpcllhdfalebbaaGreatDoor.num Go.Proofs.YtpcllhdfalebbaaGreatDoor.mem Go.Proofs.YtpcllhdfalebbaaGreatDoor.nat Go.Proofs.YtpcllhdfalebbaaGreatDoor.txt Go.Proofs.YtpcllhdfalebbaaGreatDoor.str Go.Proofs.YtpcllhdfalebbaaGreatDoor.flow Go.Proofs.YtpcllhdfalebbaaGreatDoor.whl
set_option linter.unusedVariables false
def psn (k : IntKind) (l : List Nat) : Pd := ⟨fun w v => IsS w k v l, fun h hb => h.below hb⟩
theorem IsQ.drew {w : World} {v : Value} {q : Rat} (h : IsQ w v q) : IsQ w.drew v q := by
  obtain ⟨u, t, e, h1, h2⟩ := h
  exact ⟨u, t, e, h1.drew, h2.drew⟩
theorem IsP.drew {w : World} {v : Value} {q : Rat} (h : IsP w v q) : IsP w.drew v q := by
  obtain ⟨u, t, e, h1, h2⟩ := h
  exact ⟨u, t, e, h1.drew, h2.drew⟩
set_option maxHeartbeats 1600000 in
set_option maxRecDepth 100000 in
theorem rlow_any (a0 : Value) (z : Int) (a1 : Value) (d : Nat) (w : World) (h0 : IsR w a0 z) (h1 : IsS w .i64 a1 (digs 10000 d)) (hd : d ≠ 0) (hl : lenZ z ≤ 30000) (hl2 : (digs 4294967296 d).length ≤ 30000) :
    Calls Tryz.prog 30 #[a0, a1] w (RetPF (mkRat z d) w) := by
  have HL : Hid ((digs 10000 z.natAbs).length ≤ 100000) := Nat.le_trans (lenZ_dec z) (by omega)
  have HL2 : Hid ((digs 10000 d).length ≤ 100000) := Nat.le_trans (dec_le d) (by omega)
  obtain ⟨G, hG⟩ : ∃ G, G = Nat.gcd z.natAbs d := ⟨_, rfl⟩
  obtain ⟨X, hX⟩ : ∃ X, X = z.natAbs / G := ⟨_, rfl⟩
  obtain ⟨Y, hY⟩ : ∃ Y, Y = d / G := ⟨_, rfl⟩
  have hGp : 0 < G := by rw [hG]; exact Nat.gcd_pos_of_pos_right _ (by omega)
  have HGl : Hid ((digs 10000 G).length ≤ 100000) := Nat.le_trans (digs_len_mono (by omega) (by rw [hG]; exact Nat.le_of_dvd (by omega) (Nat.gcd_dvd_right _ _))) HL2.out
  have HQN : Hid ((mkRat z d).num.natAbs = X) := by show _ = _; rw [hX, hG]; exact mk_num z hd
  have HQD : Hid ((mkRat z d).den = Y) := by show _ = _; rw [hY, hG]; exact mk_den z hd
  have HQS := Lib.hid (mk_neg z hd)
  have HXp : z < 0 → 0 < X := by intro hz; rw [hX]; exact Nat.div_pos (Nat.le_of_dvd (by omega) (by rw [hG]; exact Nat.gcd_dvd_left _ _)) hGp
  have HG := Lib.hid hG.symm
  have HX := Lib.hid hX.symm
  have HY := Lib.hid hY.symm
  clear hG hX hY
  rcases hs0 : ngB z with _ | _
  · obtain ⟨u0, rfl, s0⟩ := h0
    obtain ⟨A0, c0, rfl, _⟩ := id s0
    have s1 := h1
    obtain ⟨A1, c1, rfl, _⟩ := id s1
    go_enter Tryz.func30, Tryz.ntmps30
    go_upto_region 1 with (fail)
    obtain ⟨wx, hwx, bb, B0, BR0, hsz⟩ := vars2 w 34 36 #[.bool false, .slice A0 (digs 10000 (z).natAbs).length c0] #[.bool false, .slice none 0 0, .slice none 0 0]
    rw [hwx]
    clear hwx
    have k0s := s0.below bb
    have k0 : IsR wx (.agg #[.bool false, .slice A0 (digs 10000 (z).natAbs).length c0]) (z) := isR_mk k0s rfl hs0.symm
    have k1 := s1.below bb
    have hsz0 := bb.size
    have sB := bb.size
    refine flowp 5 [Pd.eq (.pointer (some ⟨w.heap.size, 1, none⟩)), Pd.eq (.slice A0 (digs 10000 (z).natAbs).length c0), Pd.eq (.slice A1 (digs 10000 d).length c1), psn .i64 (digs 10000 G), psn .i64 (digs 10000 G)] (by kernel_rfl) ?ob1 ?done1
    case ob1 =>
      refine And.intro (ob_fieldAddr rfl (wt_none rfl) (ev_far rfl rfl) (fun _ => by kernel_rfl) (fun _ => rfl)) ?_
      refine And.intro (ob_load rfl (wt_none rfl) (ev_dep (j := 0) (by kernel_rfl) rfl rfl) (fun w2 hb => run_load1 Tryz.underlying32 rfl ((B0.below hb).cell 1)) (fun _ _ => rfl)) ?_
      refine And.intro (ob_move rfl (wt_none rfl) (ev_far rfl rfl) (fun _ _ h => h)) ?_
      refine And.intro (ob_call2 rfl Tryz.func73 (by kernel_rfl) (wt_none rfl) (ev_dep (j := 1) (by kernel_rfl) rfl rfl) (ev_dep (j := 2) (by kernel_rfl) rfl rfl) (fun w2 u0 u1 hb h0 h1 => by obtain rfl := h0; obtain rfl := h1; exact (HG.out ▸ refGcd_any _ _ _ _ _ (k0s.below hb) (k1.below hb) HL.out HL2.out).mono fun e w3 h => h)) ?_
      refine And.intro (ob_assign rfl (wt_none rfl) (ev_dep (j := 3) (by kernel_rfl) rfl rfl) (fun _ _ h => h)) ?_
      trivial
    case done1 =>
      refine fun w11 hb11 v0 h0 v1 h1 v2 h2 v3 h3 v4 h4 b hbf => ?_
      obtain rfl := h0; obtain rfl := h1; obtain rfl := h2
      have q3 := h3
      have q4 := h4
      simp only [Act.put, List.setIfInBounds_toArray, List.set_cons_zero, List.set_cons_succ] at hbf
      subst hbf
      replace B0 := B0.below hb11
      replace k0s := k0s.below hb11
      replace k0 := k0.below hb11
      replace BR0 := BR0.below hb11
      replace k1 := k1.below hb11
      replace bb := bb.trans (hb11.mono bb.size)
      have hsz11 := bb.size
      refine ops_done ?_
      obtain ⟨A5, c5, rfl, _⟩ := id q4
      have kg := q4
      have sB := bb.size
      go_upto_region 2 with (fail)
      refine flowp 9 [Pd.eq (.pointer (some ⟨w.heap.size, 1, none⟩)), Pd.eq (.slice A0 (digs 10000 (z).natAbs).length c0), Pd.eq (.slice A5 (digs 10000 G).length c5), pt2 .i64 (digs 10000 X) (digs 10000 (z.natAbs % G)) w11.heap.size, pt2 .i64 (digs 10000 X) (digs 10000 (z.natAbs % G)) w11.heap.size, ps .i64 (digs 10000 X) w11.heap.size, ps .i64 (digs 10000 (z.natAbs % G)) w11.heap.size, ps .i64 (digs 10000 X) w11.heap.size, ps .i64 (digs 10000 (z.natAbs % G)) w11.heap.size] (by kernel_rfl) ?ob2 ?done2
      case ob2 =>
        refine And.intro (ob_fieldAddr rfl (wt_none rfl) (ev_far rfl rfl) (fun _ => by kernel_rfl) (fun _ => rfl)) ?_
        refine And.intro (ob_load rfl (wt_none rfl) (ev_dep (j := 0) (by kernel_rfl) rfl rfl) (fun w2 hb => run_load1 Tryz.underlying32 rfl ((B0.below hb).cell 1)) (fun _ _ => rfl)) ?_
        refine And.intro (ob_move rfl (wt_none rfl) (ev_far rfl rfl) (fun _ _ h => h)) ?_
        refine And.intro (ob_call2 rfl Tryz.func49 (by kernel_rfl) (wt_none rfl) (ev_dep (j := 1) (by kernel_rfl) rfl rfl) (ev_dep (j := 2) (by kernel_rfl) rfl rfl) (fun w2 u0 u1 hb h0 h1 => by obtain rfl := h0; obtain rfl := h1; exact (HX.out ▸ refDiv_any _ _ z.natAbs G _ (k0s.below hb) (kg.below hb) HL.out HGl.out hGp).mono fun e w3 h => RetSS.pd h hb.size)) ?_
        refine And.intro (ob_move rfl (wt_none rfl) (ev_dep (j := 3) (by kernel_rfl) rfl rfl) (fun _ _ h => h)) ?_
        refine And.intro (ob_extract rfl (wt_none rfl) (ev_dep (j := 4) (by kernel_rfl) rfl rfl) (fun w2 u hu => by obtain ⟨v, u, rfl, q1, q2, q3, q4⟩ := hu; exact ⟨v, rfl, q1, q3⟩)) ?_
        refine And.intro (ob_extract rfl (wt_none rfl) (ev_dep (j := 4) (by kernel_rfl) rfl rfl) (fun w2 u hu => by obtain ⟨v, u, rfl, q1, q2, q3, q4⟩ := hu; exact ⟨u, rfl, q2, q4⟩)) ?_
        refine And.intro (ob_assign rfl (wt_none rfl) (ev_dep (j := 5) (by kernel_rfl) rfl rfl) (fun _ _ h => h)) ?_
        refine And.intro (ob_assign rfl (wt_none rfl) (ev_dep (j := 6) (by kernel_rfl) rfl rfl) (fun _ _ h => h)) ?_
        trivial
      case done2 =>
        refine fun w12 hb12 v0 h0 v1 h1 v2 h2 v3 h3 v4 h4 v5 h5 v6 h6 v7 h7 v8 h8 b hbf => ?_
        obtain rfl := h0; obtain rfl := h1; obtain rfl := h2
        clear h3
        clear h4
        obtain ⟨q5, f5⟩ := h5
        obtain ⟨q6, f6⟩ := h6
        obtain ⟨q7, f7⟩ := h7
        obtain ⟨q8, f8⟩ := h8
        simp only [Act.put, List.setIfInBounds_toArray, List.set_cons_zero, List.set_cons_succ] at hbf
        subst hbf
        replace B0 := B0.below hb12
        replace k0s := k0s.below hb12
        replace k0 := k0.below hb12
        replace BR0 := BR0.below hb12
        replace k1 := k1.below hb12
        replace kg := kg.below hb12
        replace bb := bb.trans (hb12.mono bb.size)
        have hsz12 := bb.size
        have s_5 := sB
        have s_6 := sB
        have s_7 := sB
        have s_8 := sB
        refine ops_done ?_
        obtain ⟨A6, c6, rfl, _⟩ := id q7
        have kx := q7
        have kxf := f7
        have kxz_ := s_7
        have sB := bb.size
        go_upto_region 3 with (fail)
        refine flowp 8 [Pd.eq (.slice A1 (digs 10000 d).length c1), Pd.eq (.slice A5 (digs 10000 G).length c5), pt2 .i64 (digs 10000 Y) (digs 10000 (d % G)) w12.heap.size, pt2 .i64 (digs 10000 Y) (digs 10000 (d % G)) w12.heap.size, ps .i64 (digs 10000 Y) w12.heap.size, ps .i64 (digs 10000 (d % G)) w12.heap.size, ps .i64 (digs 10000 Y) w12.heap.size, ps .i64 (digs 10000 (d % G)) w12.heap.size] (by kernel_rfl) ?ob3 ?done3
        case ob3 =>
          refine And.intro (ob_move rfl (wt_none rfl) (ev_far rfl rfl) (fun _ _ h => h)) ?_
          refine And.intro (ob_move rfl (wt_none rfl) (ev_far rfl rfl) (fun _ _ h => h)) ?_
          refine And.intro (ob_call2 rfl Tryz.func49 (by kernel_rfl) (wt_none rfl) (ev_dep (j := 0) (by kernel_rfl) rfl rfl) (ev_dep (j := 1) (by kernel_rfl) rfl rfl) (fun w2 u0 u1 hb h0 h1 => by obtain rfl := h0; obtain rfl := h1; exact (HY.out ▸ refDiv_any _ _ d G _ (k1.below hb) (kg.below hb) HL2.out HGl.out hGp).mono fun e w3 h => RetSS.pd h hb.size)) ?_
          refine And.intro (ob_move rfl (wt_none rfl) (ev_dep (j := 2) (by kernel_rfl) rfl rfl) (fun _ _ h => h)) ?_
          refine And.intro (ob_extract rfl (wt_none rfl) (ev_dep (j := 3) (by kernel_rfl) rfl rfl) (fun w2 u hu => by obtain ⟨v, u, rfl, q1, q2, q3, q4⟩ := hu; exact ⟨v, rfl, q1, q3⟩)) ?_
          refine And.intro (ob_extract rfl (wt_none rfl) (ev_dep (j := 3) (by kernel_rfl) rfl rfl) (fun w2 u hu => by obtain ⟨v, u, rfl, q1, q2, q3, q4⟩ := hu; exact ⟨u, rfl, q2, q4⟩)) ?_
          refine And.intro (ob_assign rfl (wt_none rfl) (ev_dep (j := 4) (by kernel_rfl) rfl rfl) (fun _ _ h => h)) ?_
          refine And.intro (ob_assign rfl (wt_none rfl) (ev_dep (j := 5) (by kernel_rfl) rfl rfl) (fun _ _ h => h)) ?_
          trivial
        case done3 =>
          refine fun w13 hb13 v0 h0 v1 h1 v2 h2 v3 h3 v4 h4 v5 h5 v6 h6 v7 h7 b hbf => ?_
          obtain rfl := h0; obtain rfl := h1
          clear h2
          clear h3
          obtain ⟨q4, f4⟩ := h4
          obtain ⟨q5, f5⟩ := h5
          obtain ⟨q6, f6⟩ := h6
          obtain ⟨q7, f7⟩ := h7
          simp only [Act.put, List.setIfInBounds_toArray, List.set_cons_zero, List.set_cons_succ] at hbf
          subst hbf
          replace B0 := B0.below hb13
          replace k0s := k0s.below hb13
          replace k0 := k0.below hb13
          replace BR0 := BR0.below hb13
          replace k1 := k1.below hb13
          replace kg := kg.below hb13
          replace kx := kx.below hb13
          replace bb := bb.trans (hb13.mono bb.size)
          have hsz13 := bb.size
          have s_4 := sB
          have s_5 := sB
          have s_6 := sB
          have s_7 := sB
          refine ops_done ?_
          obtain ⟨A8, c8, rfl, _⟩ := id q6
          have ky := q6
          have kyf := f6
          have kyz_ := s_6
          have sB := bb.size
          go_upto_region 4 with (fail)
          refine flowp 11 [Pd.eq (.pointer (some ⟨w.heap.size, 0, none⟩)), Pd.eq (.bool false), Pd.eq (.bool false), Pd.any, Pd.any, Pd.any, Pd.eq (.bool false), Pd.eq (.slice A6 (digs 10000 X).length c6), Pd.eq (.agg #[.bool false, .slice A6 (digs 10000 X).length c6]), Pd.eq (.slice A8 (digs 10000 Y).length c8), Pd.eq (.agg #[.bool false, .slice A6 (digs 10000 X).length c6, .slice A8 (digs 10000 Y).length c8])] (by kernel_rfl) ?ob4 ?done4
          case ob4 =>
            refine And.intro (ob_fieldAddr rfl (wt_none rfl) (ev_far rfl rfl) (fun _ => by kernel_rfl) (fun _ => rfl)) ?_
            refine And.intro (ob_load rfl (wt_none rfl) (ev_dep (j := 0) (by kernel_rfl) rfl rfl) (fun w2 hb => run_load1 Tryz.underlying4 rfl ((B0.below hb).cell 0)) (fun _ _ => rfl)) ?_
            refine And.intro (ob_move rfl (wt_none rfl) (ev_dep (j := 1) (by kernel_rfl) rfl rfl) (fun _ _ h => h)) ?_
            refine And.intro (ob_not (wt_dep (c := false) (b := true) (g := 2) rfl (by kernel_rfl) rfl rfl rfl (by exact fun _ _ h => h)) (fun _ => trivial) rfl) ?_
            refine And.intro (ob_not (wt_dep (c := false) (b := true) (g := 2) rfl (by kernel_rfl) rfl rfl rfl (by exact fun _ _ h => h)) (fun _ => trivial) rfl) ?_
            refine And.intro (ob_not (wt_dep (c := false) (b := true) (g := 2) rfl (by kernel_rfl) rfl rfl rfl (by exact fun _ _ h => h)) (fun _ => trivial) rfl) ?_
            refine And.intro (ob_pick (b := false) rfl (wt_none rfl) (ev_dep (j := 2) (by kernel_rfl) rfl rfl) (ev_const _) (fun _ _ h => h)) ?_
            refine And.intro (ob_move rfl (wt_none rfl) (ev_far rfl rfl) (fun _ _ h => h)) ?_
            refine And.intro (ob_build2b rfl (wt_none rfl) (ev_dep (j := 6) (by kernel_rfl) rfl rfl) (ev_dep (j := 7) (by kernel_rfl) rfl rfl) (fun w2 u v hb hu hv => by obtain rfl := hu; obtain rfl := hv; exact ⟨.agg #[.bool false, .slice A6 (digs 10000 X).length c6], by kernel_rfl, rfl⟩)) ?_
            refine And.intro (ob_move rfl (wt_none rfl) (ev_far rfl rfl) (fun _ _ h => h)) ?_
            refine And.intro (ob_build2b rfl (wt_none rfl) (ev_dep (j := 8) (by kernel_rfl) rfl rfl) (ev_dep (j := 9) (by kernel_rfl) rfl rfl) (fun w2 u v hb hu hv => by obtain rfl := hu; obtain rfl := hv; exact ⟨.agg #[.bool false, .slice A6 (digs 10000 X).length c6, .slice A8 (digs 10000 Y).length c8], by kernel_rfl, rfl⟩)) ?_
            trivial
          case done4 =>
            refine fun w14 hb14 v0 h0 v1 h1 v2 h2 v3 h3 v4 h4 v5 h5 v6 h6 v7 h7 v8 h8 v9 h9 v10 h10 b hbf => ?_
            obtain rfl := h0; obtain rfl := h1; obtain rfl := h2; obtain rfl := h6; obtain rfl := h7; obtain rfl := h8; obtain rfl := h9; obtain rfl := h10
            clear h3
            clear h4
            clear h5
            simp only [Act.put, List.setIfInBounds_toArray, List.set_cons_zero, List.set_cons_succ] at hbf
            subst hbf
            replace B0 := B0.below hb14
            replace k0s := k0s.below hb14
            replace k0 := k0.below hb14
            replace BR0 := BR0.below hb14
            replace k1 := k1.below hb14
            replace kg := kg.below hb14
            replace kx := kx.below hb14
            replace ky := ky.below hb14
            replace bb := bb.trans (hb14.mono bb.size)
            have hsz14 := bb.size
            refine ops_store (i := 11) rfl rfl rfl rfl rfl rfl (cells := [.bool false, .slice A6 (digs 10000 X).length c6, .slice A8 (digs 10000 Y).length c8]) rfl BR0 rfl (by kernel_rfl) (one3 rfl rfl rfl) fun w9 hg9 B9 => ?_
            have k9 := off kx BR0 no_ints3 hg9
            have d9 := off ky BR0 no_ints3 hg9
            have bb9 := bb.trans ((Below.refl _ _).grown hg9 bb.size (fun g hg => by injection hg with hg; omega))
            obtain ⟨C0, C1, C2, _, _, _⟩ := three B9
            refine ops_done ?_
            go_wp2
            exact bodyPost_ret (v := .agg #[.bool false, .slice A6 (digs 10000 X).length c6, .slice A8 (digs 10000 Y).length c8]) (by simp [results, Tryz.results30, go_sem, C0, C1, C2]) rfl ⟨_, rfl, isP_mk k9 d9 (by rw [HQS.out, hs0]) HQN.out HQD.out, freshQ_mk (kxf.mono kxz_) (kyf.mono kyz_), bb9⟩
  · obtain ⟨u0, rfl, s0⟩ := h0
    obtain ⟨A0, c0, rfl, _⟩ := id s0
    have s1 := h1
    obtain ⟨A1, c1, rfl, _⟩ := id s1
    go_enter Tryz.func30, Tryz.ntmps30
    go_upto_region 1 with (fail)
    obtain ⟨wx, hwx, bb, B0, BR0, hsz⟩ := vars2 w 34 36 #[.bool true, .slice A0 (digs 10000 (z).natAbs).length c0] #[.bool false, .slice none 0 0, .slice none 0 0]
    rw [hwx]
    clear hwx
    have k0s := s0.below bb
    have k0 : IsR wx (.agg #[.bool true, .slice A0 (digs 10000 (z).natAbs).length c0]) (z) := isR_mk k0s rfl hs0.symm
    have k1 := s1.below bb
    have hsz0 := bb.size
    have sB := bb.size
    refine flowp 5 [Pd.eq (.pointer (some ⟨w.heap.size, 1, none⟩)), Pd.eq (.slice A0 (digs 10000 (z).natAbs).length c0), Pd.eq (.slice A1 (digs 10000 d).length c1), psn .i64 (digs 10000 G), psn .i64 (digs 10000 G)] (by kernel_rfl) ?ob5 ?done5
    case ob5 =>
      refine And.intro (ob_fieldAddr rfl (wt_none rfl) (ev_far rfl rfl) (fun _ => by kernel_rfl) (fun _ => rfl)) ?_
      refine And.intro (ob_load rfl (wt_none rfl) (ev_dep (j := 0) (by kernel_rfl) rfl rfl) (fun w2 hb => run_load1 Tryz.underlying32 rfl ((B0.below hb).cell 1)) (fun _ _ => rfl)) ?_
      refine And.intro (ob_move rfl (wt_none rfl) (ev_far rfl rfl) (fun _ _ h => h)) ?_
      refine And.intro (ob_call2 rfl Tryz.func73 (by kernel_rfl) (wt_none rfl) (ev_dep (j := 1) (by kernel_rfl) rfl rfl) (ev_dep (j := 2) (by kernel_rfl) rfl rfl) (fun w2 u0 u1 hb h0 h1 => by obtain rfl := h0; obtain rfl := h1; exact (HG.out ▸ refGcd_any _ _ _ _ _ (k0s.below hb) (k1.below hb) HL.out HL2.out).mono fun e w3 h => h)) ?_
      refine And.intro (ob_assign rfl (wt_none rfl) (ev_dep (j := 3) (by kernel_rfl) rfl rfl) (fun _ _ h => h)) ?_
      trivial
    case done5 =>
      refine fun w11 hb11 v0 h0 v1 h1 v2 h2 v3 h3 v4 h4 b hbf => ?_
      obtain rfl := h0; obtain rfl := h1; obtain rfl := h2
      have q3 := h3
      have q4 := h4
      simp only [Act.put, List.setIfInBounds_toArray, List.set_cons_zero, List.set_cons_succ] at hbf
      subst hbf
      replace B0 := B0.below hb11
      replace k0s := k0s.below hb11
      replace k0 := k0.below hb11
      replace BR0 := BR0.below hb11
      replace k1 := k1.below hb11
      replace bb := bb.trans (hb11.mono bb.size)
      have hsz11 := bb.size
      refine ops_done ?_
      obtain ⟨A5, c5, rfl, _⟩ := id q4
      have kg := q4
      have sB := bb.size
      go_upto_region 2 with (fail)
      refine flowp 9 [Pd.eq (.pointer (some ⟨w.heap.size, 1, none⟩)), Pd.eq (.slice A0 (digs 10000 (z).natAbs).length c0), Pd.eq (.slice A5 (digs 10000 G).length c5), pt2 .i64 (digs 10000 X) (digs 10000 (z.natAbs % G)) w11.heap.size, pt2 .i64 (digs 10000 X) (digs 10000 (z.natAbs % G)) w11.heap.size, ps .i64 (digs 10000 X) w11.heap.size, ps .i64 (digs 10000 (z.natAbs % G)) w11.heap.size, ps .i64 (digs 10000 X) w11.heap.size, ps .i64 (digs 10000 (z.natAbs % G)) w11.heap.size] (by kernel_rfl) ?ob6 ?done6
      case ob6 =>
        refine And.intro (ob_fieldAddr rfl (wt_none rfl) (ev_far rfl rfl) (fun _ => by kernel_rfl) (fun _ => rfl)) ?_
        refine And.intro (ob_load rfl (wt_none rfl) (ev_dep (j := 0) (by kernel_rfl) rfl rfl) (fun w2 hb => run_load1 Tryz.underlying32 rfl ((B0.below hb).cell 1)) (fun _ _ => rfl)) ?_
        refine And.intro (ob_move rfl (wt_none rfl) (ev_far rfl rfl) (fun _ _ h => h)) ?_
        refine And.intro (ob_call2 rfl Tryz.func49 (by kernel_rfl) (wt_none rfl) (ev_dep (j := 1) (by kernel_rfl) rfl rfl) (ev_dep (j := 2) (by kernel_rfl) rfl rfl) (fun w2 u0 u1 hb h0 h1 => by obtain rfl := h0; obtain rfl := h1; exact (HX.out ▸ refDiv_any _ _ z.natAbs G _ (k0s.below hb) (kg.below hb) HL.out HGl.out hGp).mono fun e w3 h => RetSS.pd h hb.size)) ?_
        refine And.intro (ob_move rfl (wt_none rfl) (ev_dep (j := 3) (by kernel_rfl) rfl rfl) (fun _ _ h => h)) ?_
        refine And.intro (ob_extract rfl (wt_none rfl) (ev_dep (j := 4) (by kernel_rfl) rfl rfl) (fun w2 u hu => by obtain ⟨v, u, rfl, q1, q2, q3, q4⟩ := hu; exact ⟨v, rfl, q1, q3⟩)) ?_
        refine And.intro (ob_extract rfl (wt_none rfl) (ev_dep (j := 4) (by kernel_rfl) rfl rfl) (fun w2 u hu => by obtain ⟨v, u, rfl, q1, q2, q3, q4⟩ := hu; exact ⟨u, rfl, q2, q4⟩)) ?_
        refine And.intro (ob_assign rfl (wt_none rfl) (ev_dep (j := 5) (by kernel_rfl) rfl rfl) (fun _ _ h => h)) ?_
        refine And.intro (ob_assign rfl (wt_none rfl) (ev_dep (j := 6) (by kernel_rfl) rfl rfl) (fun _ _ h => h)) ?_
        trivial
      case done6 =>
        refine fun w12 hb12 v0 h0 v1 h1 v2 h2 v3 h3 v4 h4 v5 h5 v6 h6 v7 h7 v8 h8 b hbf => ?_
        obtain rfl := h0; obtain rfl := h1; obtain rfl := h2
        clear h3
        clear h4
        obtain ⟨q5, f5⟩ := h5
        obtain ⟨q6, f6⟩ := h6
        obtain ⟨q7, f7⟩ := h7
        obtain ⟨q8, f8⟩ := h8
        simp only [Act.put, List.setIfInBounds_toArray, List.set_cons_zero, List.set_cons_succ] at hbf
        subst hbf
        replace B0 := B0.below hb12
        replace k0s := k0s.below hb12
        replace k0 := k0.below hb12
        replace BR0 := BR0.below hb12
        replace k1 := k1.below hb12
        replace kg := kg.below hb12
        replace bb := bb.trans (hb12.mono bb.size)
        have hsz12 := bb.size
        have s_5 := sB
        have s_6 := sB
        have s_7 := sB
        have s_8 := sB
        refine ops_done ?_
        obtain ⟨A6, c6, rfl, _⟩ := id q7
        have kx := q7
        have kxf := f7
        have kxz_ := s_7
        have sB := bb.size
        go_upto_region 3 with (fail)
        refine flowp 8 [Pd.eq (.slice A1 (digs 10000 d).length c1), Pd.eq (.slice A5 (digs 10000 G).length c5), pt2 .i64 (digs 10000 Y) (digs 10000 (d % G)) w12.heap.size, pt2 .i64 (digs 10000 Y) (digs 10000 (d % G)) w12.heap.size, ps .i64 (digs 10000 Y) w12.heap.size, ps .i64 (digs 10000 (d % G)) w12.heap.size, ps .i64 (digs 10000 Y) w12.heap.size, ps .i64 (digs 10000 (d % G)) w12.heap.size] (by kernel_rfl) ?ob7 ?done7
        case ob7 =>
          refine And.intro (ob_move rfl (wt_none rfl) (ev_far rfl rfl) (fun _ _ h => h)) ?_
          refine And.intro (ob_move rfl (wt_none rfl) (ev_far rfl rfl) (fun _ _ h => h)) ?_
          refine And.intro (ob_call2 rfl Tryz.func49 (by kernel_rfl) (wt_none rfl) (ev_dep (j := 0) (by kernel_rfl) rfl rfl) (ev_dep (j := 1) (by kernel_rfl) rfl rfl) (fun w2 u0 u1 hb h0 h1 => by obtain rfl := h0; obtain rfl := h1; exact (HY.out ▸ refDiv_any _ _ d G _ (k1.below hb) (kg.below hb) HL2.out HGl.out hGp).mono fun e w3 h => RetSS.pd h hb.size)) ?_
          refine And.intro (ob_move rfl (wt_none rfl) (ev_dep (j := 2) (by kernel_rfl) rfl rfl) (fun _ _ h => h)) ?_
          refine And.intro (ob_extract rfl (wt_none rfl) (ev_dep (j := 3) (by kernel_rfl) rfl rfl) (fun w2 u hu => by obtain ⟨v, u, rfl, q1, q2, q3, q4⟩ := hu; exact ⟨v, rfl, q1, q3⟩)) ?_
          refine And.intro (ob_extract rfl (wt_none rfl) (ev_dep (j := 3) (by kernel_rfl) rfl rfl) (fun w2 u hu => by obtain ⟨v, u, rfl, q1, q2, q3, q4⟩ := hu; exact ⟨u, rfl, q2, q4⟩)) ?_
          refine And.intro (ob_assign rfl (wt_none rfl) (ev_dep (j := 4) (by kernel_rfl) rfl rfl) (fun _ _ h => h)) ?_
          refine And.intro (ob_assign rfl (wt_none rfl) (ev_dep (j := 5) (by kernel_rfl) rfl rfl) (fun _ _ h => h)) ?_
          trivial
        case done7 =>
          refine fun w13 hb13 v0 h0 v1 h1 v2 h2 v3 h3 v4 h4 v5 h5 v6 h6 v7 h7 b hbf => ?_
          obtain rfl := h0; obtain rfl := h1
          clear h2
          clear h3
          obtain ⟨q4, f4⟩ := h4
          obtain ⟨q5, f5⟩ := h5
          obtain ⟨q6, f6⟩ := h6
          obtain ⟨q7, f7⟩ := h7
          simp only [Act.put, List.setIfInBounds_toArray, List.set_cons_zero, List.set_cons_succ] at hbf
          subst hbf
          replace B0 := B0.below hb13
          replace k0s := k0s.below hb13
          replace k0 := k0.below hb13
          replace BR0 := BR0.below hb13
          replace k1 := k1.below hb13
          replace kg := kg.below hb13
          replace kx := kx.below hb13
          replace bb := bb.trans (hb13.mono bb.size)
          have hsz13 := bb.size
          have s_4 := sB
          have s_5 := sB
          have s_6 := sB
          have s_7 := sB
          refine ops_done ?_
          obtain ⟨A8, c8, rfl, _⟩ := id q6
          have ky := q6
          have kyf := f6
          have kyz_ := s_6
          have HXl : Hid (decide ((0 : Int) < (((digs 10000 X).length : Nat) : Int)) = true) := by show _ = _; have := (digs_len0 (B := 10000) (by omega) (x := X)).1; have := HXp (ngB_true hs0); exact decide_eq_true (by omega)
          have sB := bb.size
          go_upto_region 4 with (fail)
          refine flowp 11 [Pd.eq (.pointer (some ⟨w.heap.size, 0, none⟩)), Pd.eq (.bool true), Pd.eq (.bool true), Pd.eq (.slice A6 (digs 10000 X).length c6), Pd.eq (.int .i64 (((digs 10000 X).length : Nat) : Int)), Pd.eq (.bool true), Pd.eq (.bool true), Pd.eq (.slice A6 (digs 10000 X).length c6), Pd.eq (.agg #[.bool true, .slice A6 (digs 10000 X).length c6]), Pd.eq (.slice A8 (digs 10000 Y).length c8), Pd.eq (.agg #[.bool true, .slice A6 (digs 10000 X).length c6, .slice A8 (digs 10000 Y).length c8])] (by kernel_rfl) ?ob8 ?done8
          case ob8 =>
            refine And.intro (ob_fieldAddr rfl (wt_none rfl) (ev_far rfl rfl) (fun _ => by kernel_rfl) (fun _ => rfl)) ?_
            refine And.intro (ob_load rfl (wt_none rfl) (ev_dep (j := 0) (by kernel_rfl) rfl rfl) (fun w2 hb => run_load1 Tryz.underlying4 rfl ((B0.below hb).cell 0)) (fun _ _ => rfl)) ?_
            refine And.intro (ob_move rfl (wt_none rfl) (ev_dep (j := 1) (by kernel_rfl) rfl rfl) (fun _ _ h => h)) ?_
            refine And.intro (ob_move rfl (wt_dep (c := true) (b := true) (g := 2) rfl (by kernel_rfl) rfl rfl rfl (by exact fun _ _ h => h)) (ev_far rfl rfl) (fun _ _ h => h)) ?_
            refine And.intro (ob_len rfl (wt_dep (c := true) (b := true) (g := 2) rfl (by kernel_rfl) rfl rfl rfl (by exact fun _ _ h => h)) (ev_dep (j := 3) (by kernel_rfl) rfl rfl) (fun _ _ hx => ⟨_, by rw [hx]; exact len_slice Tryz.underlying32 _ _ _ _, rfl⟩)) ?_
            refine And.intro (ob_bin rfl (wt_dep (c := true) (b := true) (g := 2) rfl (by kernel_rfl) rfl rfl rfl (by exact fun _ _ h => h)) (ev_dep (j := 4) (by kernel_rfl) rfl rfl) (ev_const _) (fun _ _ _ hx hy => ⟨.bool true, by rw [hx, hy, bin_gtr_int, HXl.out], rfl⟩)) ?_
            refine And.intro (ob_pick (b := true) rfl (wt_none rfl) (ev_dep (j := 2) (by kernel_rfl) rfl rfl) (ev_dep (j := 5) (by kernel_rfl) rfl rfl) (fun _ _ h => h)) ?_
            refine And.intro (ob_move rfl (wt_none rfl) (ev_far rfl rfl) (fun _ _ h => h)) ?_
            refine And.intro (ob_build2b rfl (wt_none rfl) (ev_dep (j := 6) (by kernel_rfl) rfl rfl) (ev_dep (j := 7) (by kernel_rfl) rfl rfl) (fun w2 u v hb hu hv => by obtain rfl := hu; obtain rfl := hv; exact ⟨.agg #[.bool true, .slice A6 (digs 10000 X).length c6], by kernel_rfl, rfl⟩)) ?_
            refine And.intro (ob_move rfl (wt_none rfl) (ev_far rfl rfl) (fun _ _ h => h)) ?_
            refine And.intro (ob_build2b rfl (wt_none rfl) (ev_dep (j := 8) (by kernel_rfl) rfl rfl) (ev_dep (j := 9) (by kernel_rfl) rfl rfl) (fun w2 u v hb hu hv => by obtain rfl := hu; obtain rfl := hv; exact ⟨.agg #[.bool true, .slice A6 (digs 10000 X).length c6, .slice A8 (digs 10000 Y).length c8], by kernel_rfl, rfl⟩)) ?_
            trivial
          case done8 =>
            refine fun w14 hb14 v0 h0 v1 h1 v2 h2 v3 h3 v4 h4 v5 h5 v6 h6 v7 h7 v8 h8 v9 h9 v10 h10 b hbf => ?_
            obtain rfl := h0; obtain rfl := h1; obtain rfl := h2; obtain rfl := h3; obtain rfl := h4; obtain rfl := h5; obtain rfl := h6; obtain rfl := h7; obtain rfl := h8; obtain rfl := h9; obtain rfl := h10
            simp only [Act.put, List.setIfInBounds_toArray, List.set_cons_zero, List.set_cons_succ] at hbf
            subst hbf
            replace B0 := B0.below hb14
            replace k0s := k0s.below hb14
            replace k0 := k0.below hb14
            replace BR0 := BR0.below hb14
            replace k1 := k1.below hb14
            replace kg := kg.below hb14
            replace kx := kx.below hb14
            replace ky := ky.below hb14
            replace bb := bb.trans (hb14.mono bb.size)
            have hsz14 := bb.size
            refine ops_store (i := 11) rfl rfl rfl rfl rfl rfl (cells := [.bool true, .slice A6 (digs 10000 X).length c6, .slice A8 (digs 10000 Y).length c8]) rfl BR0 rfl (by kernel_rfl) (one3 rfl rfl rfl) fun w9 hg9 B9 => ?_
            have k9 := off kx BR0 no_ints3 hg9
            have d9 := off ky BR0 no_ints3 hg9
            have bb9 := bb.trans ((Below.refl _ _).grown hg9 bb.size (fun g hg => by injection hg with hg; omega))
            obtain ⟨C0, C1, C2, _, _, _⟩ := three B9
            refine ops_done ?_
            go_wp2
            exact bodyPost_ret (v := .agg #[.bool true, .slice A6 (digs 10000 X).length c6, .slice A8 (digs 10000 Y).length c8]) (by simp [results, Tryz.results30, go_sem, C0, C1, C2]) rfl ⟨_, rfl, isP_mk k9 d9 (by rw [HQS.out, hs0]) HQN.out HQD.out, freshQ_mk (kxf.mono kxz_) (kyf.mono kyz_), bb9⟩
set_option maxHeartbeats 1600000 in
set_option maxRecDepth 100000 in
theorem qof_any (a0 : Value) (q : Rat) (w : World) (h0 : IsQ w a0 q) (hl : lenQ q 30000) :
    Calls Tryz.prog 12 #[a0] w (RetP q w) := by
  obtain ⟨u0, t0, rfl, s0, r0⟩ := h0
  obtain ⟨A0, c0, rfl, _⟩ := id s0
  obtain ⟨D0, e0, rfl, _⟩ := id r0
  go_enter Tryz.func12, Tryz.ntmps12
  go_upto_region 1 with (fail)
  obtain ⟨wx, hwx, bb, B0, BR0, hsz⟩ := vars2 w 27 36 #[.bool (ngB (q).num), .slice A0 (digs 4294967296 (q).num.natAbs).length c0, .slice D0 (digs 4294967296 (q).den).length e0] #[.bool false, .slice none 0 0, .slice none 0 0]
  rw [hwx]
  clear hwx
  have k0s := s0.below bb
  have k0d := r0.below bb
  have k0z : IsZ wx (.agg #[.bool (ngB (q).num), .slice A0 (digs 4294967296 (q).num.natAbs).length c0]) (q).num := ⟨_, rfl, k0s⟩
  have k0 : IsQ wx (.agg #[.bool (ngB (q).num), .slice A0 (digs 4294967296 (q).num.natAbs).length c0, .slice D0 (digs 4294967296 (q).den).length e0]) (q) := ⟨_, _, rfl, k0s, k0d⟩
  have hsz0 := bb.size
  have sB := bb.size
  refine flow 7 [Pd.eq (.pointer (some ⟨w.heap.size, 0, none⟩)), Pd.eq (.agg #[.bool (ngB (q).num), .slice A0 (digs 4294967296 (q).num.natAbs).length c0]), pr ((q).num), Pd.eq (.pointer (some ⟨w.heap.size, 2, none⟩)), Pd.eq (.slice D0 (digs 4294967296 (q).den).length e0), ps .i64 (digs 10000 (q).den) wx.heap.size, pp (q)] (by kernel_rfl) (by kernel_rfl) ?ob9 ?done9
  case ob9 =>
    refine And.intro (ob_fieldAddr rfl (wt_none rfl) (ev_far rfl rfl) (fun _ => by kernel_rfl) (fun _ => rfl)) ?_
    refine And.intro (ob_load rfl (wt_none rfl) (ev_dep (j := 0) (by kernel_rfl) rfl rfl) (fun w2 hb => run_loadPart Tryz.underlying25 rfl (by kernel_rfl) (B0.drew.below hb) rfl) (fun _ _ => rfl)) ?_
    refine And.intro (ob_call1 rfl Tryz.func39 (by kernel_rfl) (wt_none rfl) (ev_dep (j := 1) (by kernel_rfl) rfl rfl) (fun w2 u0 hb h0 => by obtain rfl := h0; exact (rof_any _ _ _ (k0z.drew.below hb) (Nat.le_trans hl.1 (by decide))).mono fun e w3 h => RetR.pd h)) ?_
    refine And.intro (ob_fieldAddr rfl (wt_none rfl) (ev_far rfl rfl) (fun _ => by kernel_rfl) (fun _ => rfl)) ?_
    refine And.intro (ob_load rfl (wt_none rfl) (ev_dep (j := 3) (by kernel_rfl) rfl rfl) (fun w2 hb => run_load1 Tryz.underlying23 rfl ((B0.drew.below hb).cell 2)) (fun _ _ => rfl)) ?_
    refine And.intro (ob_call1 rfl Tryz.func41 (by kernel_rfl) (wt_none rfl) (ev_dep (j := 4) (by kernel_rfl) rfl rfl) (fun w2 u0 hb h0 => by obtain rfl := h0; exact (refOf_any _ _ _ (k0d.drew.below hb) (Nat.le_trans hl.2 (by decide))).mono fun e w3 h => RetS.pd h hb.size)) ?_
    refine And.intro (ob_build2b rfl (wt_none rfl) (ev_dep (j := 2) (by kernel_rfl) rfl rfl) (ev_dep (j := 5) (by kernel_rfl) rfl rfl) (fun w2 u v hb hu hv => by obtain ⟨u7, rfl, hu7⟩ := hu; obtain ⟨A7, c7, rfl, _⟩ := id hu7; obtain ⟨A8, c8, rfl, _⟩ := id hv.1; exact ⟨.agg #[.bool (ngB (q).num), .slice A7 (digs 10000 (q).num.natAbs).length c7, .slice A8 (digs 10000 (q).den).length c8], by kernel_rfl, ⟨_, _, rfl, hu7, hv.1⟩⟩)) ?_
    trivial
  case done9 =>
    refine fun w11 hb11 v0 h0 v1 h1 v2 h2 v3 h3 v4 h4 v5 h5 v6 h6 b hbf => ?_
    obtain rfl := h0; obtain rfl := h1; obtain rfl := h3; obtain rfl := h4
    have q2 := h2
    obtain ⟨q5, f5⟩ := h5
    have q6 := h6
    simp only [Act.put, List.setIfInBounds_toArray, List.set_cons_zero, List.set_cons_succ] at hbf
    subst hbf
    replace B0 := B0.below hb11
    replace k0s := k0s.below hb11
    replace k0d := k0d.below hb11
    replace k0z := k0z.below hb11
    replace k0 := k0.below hb11
    replace BR0 := BR0.below hb11
    replace bb := bb.trans (hb11.mono bb.size)
    have hsz11 := bb.size
    have s_5 := sB
    obtain ⟨u6, t6, rfl, q6, d6⟩ := q6
    obtain ⟨A9, c9, rfl, _⟩ := id q6
    obtain ⟨D9, e9, rfl, _⟩ := id d6
    refine any_store (i := 7) (by kernel_rfl) rfl rfl rfl rfl rfl rfl (cells := [.bool (ngB (q).num), .slice A9 (digs 10000 (q).num.natAbs).length c9, .slice D9 (digs 10000 (q).den).length e9]) rfl BR0 rfl (by kernel_rfl) (one3 rfl rfl rfl) fun w9 hg9 B9 => ?_
    have k9 := off q6 BR0 no_ints3 hg9
    have d9 := off d6 BR0 no_ints3 hg9
    have bb9 := bb.trans ((Below.refl _ _).grown hg9 bb.size (fun g hg => by injection hg with hg; omega))
    obtain ⟨C0, C1, C2, _, _, _⟩ := three B9
    refine any_done (by kernel_rfl) ?_
    go_wp2
    exact bodyPost_ret (v := .agg #[.bool (ngB (q).num), .slice A9 (digs 10000 (q).num.natAbs).length c9, .slice D9 (digs 10000 (q).den).length e9]) (by simp [results, Tryz.results12, go_sem, C0, C1, C2]) rfl ⟨_, rfl, ⟨_, _, rfl, k9, d9⟩, bb9⟩
set_option maxHeartbeats 1600000 in
set_option maxRecDepth 100000 in
theorem qback_any (a0 : Value) (q : Rat) (w : World) (h0 : IsP w a0 q) (hl : lenQ q 30000) :
    Calls Tryz.prog 10 #[a0] w (RetQ q w) := by
  obtain ⟨u0, t0, rfl, s0, r0⟩ := h0
  obtain ⟨A0, c0, rfl, _⟩ := id s0
  obtain ⟨D0, e0, rfl, _⟩ := id r0
  go_enter Tryz.func10, Tryz.ntmps10
  go_upto_region 1 with (fail)
  obtain ⟨wx, hwx, bb, B0, BR0, hsz⟩ := vars2 w 36 27 #[.bool (ngB (q).num), .slice A0 (digs 10000 (q).num.natAbs).length c0, .slice D0 (digs 10000 (q).den).length e0] #[.bool false, .slice none 0 0, .slice none 0 0]
  rw [hwx]
  clear hwx
  have k0s := s0.below bb
  have k0d := r0.below bb
  have k0z : IsR wx (.agg #[.bool (ngB (q).num), .slice A0 (digs 10000 (q).num.natAbs).length c0]) (q).num := ⟨_, rfl, k0s⟩
  have k0 : IsP wx (.agg #[.bool (ngB (q).num), .slice A0 (digs 10000 (q).num.natAbs).length c0, .slice D0 (digs 10000 (q).den).length e0]) (q) := ⟨_, _, rfl, k0s, k0d⟩
  have hsz0 := bb.size
  have sB := bb.size
  refine flow 7 [Pd.eq (.pointer (some ⟨w.heap.size, 0, none⟩)), Pd.eq (.agg #[.bool (ngB (q).num), .slice A0 (digs 10000 (q).num.natAbs).length c0]), pz ((q).num) wx.heap.size, Pd.eq (.pointer (some ⟨w.heap.size, 2, none⟩)), Pd.eq (.slice D0 (digs 10000 (q).den).length e0), ps .u64 (digs 4294967296 (q).den) wx.heap.size, pq (q) wx.heap.size] (by kernel_rfl) (by kernel_rfl) ?ob10 ?done10
  case ob10 =>
    refine And.intro (ob_fieldAddr rfl (wt_none rfl) (ev_far rfl rfl) (fun _ => by kernel_rfl) (fun _ => rfl)) ?_
    refine And.intro (ob_load rfl (wt_none rfl) (ev_dep (j := 0) (by kernel_rfl) rfl rfl) (fun w2 hb => run_loadPart Tryz.underlying34 rfl (by kernel_rfl) (B0.drew.below hb) rfl) (fun _ _ => rfl)) ?_
    refine And.intro (ob_call1 rfl Tryz.func36 (by kernel_rfl) (wt_none rfl) (ev_dep (j := 1) (by kernel_rfl) rfl rfl) (fun w2 u0 hb h0 => by obtain rfl := h0; exact (rback_any _ _ _ (k0z.drew.below hb) (Nat.le_trans hl.1 (by decide))).mono fun e w3 h => RetZ.pd h hb.size)) ?_
    refine And.intro (ob_fieldAddr rfl (wt_none rfl) (ev_far rfl rfl) (fun _ => by kernel_rfl) (fun _ => rfl)) ?_
    refine And.intro (ob_load rfl (wt_none rfl) (ev_dep (j := 3) (by kernel_rfl) rfl rfl) (fun w2 hb => run_load1 Tryz.underlying32 rfl ((B0.drew.below hb).cell 2)) (fun _ _ => rfl)) ?_
    refine And.intro (ob_call1 rfl Tryz.func37 (by kernel_rfl) (wt_none rfl) (ev_dep (j := 4) (by kernel_rfl) rfl rfl) (fun w2 u0 hb h0 => by obtain rfl := h0; exact (refBack_any _ _ _ (k0d.drew.below hb) (Nat.le_trans (dec_le _) (by have := hl.2; omega)) (Nat.le_trans hl.2 (by decide))).mono fun e w3 h => RetS.pd h hb.size)) ?_
    refine And.intro (ob_build2b rfl (wt_none rfl) (ev_dep (j := 2) (by kernel_rfl) rfl rfl) (ev_dep (j := 5) (by kernel_rfl) rfl rfl) (fun w2 u v hb hu hv => by obtain ⟨u7, rfl, hu7⟩ := hu.1; obtain ⟨A7, c7, rfl, _⟩ := id hu7; obtain ⟨A8, c8, rfl, _⟩ := id hv.1; exact ⟨.agg #[.bool (ngB (q).num), .slice A7 (digs 4294967296 (q).num.natAbs).length c7, .slice A8 (digs 4294967296 (q).den).length c8], by kernel_rfl, ⟨⟨_, _, rfl, hu7, hv.1⟩, freshQ_mk (hu.2 _ _ rfl) hv.2⟩⟩)) ?_
    trivial
  case done10 =>
    refine fun w11 hb11 v0 h0 v1 h1 v2 h2 v3 h3 v4 h4 v5 h5 v6 h6 b hbf => ?_
    obtain rfl := h0; obtain rfl := h1; obtain rfl := h3; obtain rfl := h4
    obtain ⟨q2, f2⟩ := h2
    obtain ⟨q5, f5⟩ := h5
    obtain ⟨q6, f6⟩ := h6
    simp only [Act.put, List.setIfInBounds_toArray, List.set_cons_zero, List.set_cons_succ] at hbf
    subst hbf
    replace B0 := B0.below hb11
    replace k0s := k0s.below hb11
    replace k0d := k0d.below hb11
    replace k0z := k0z.below hb11
    replace k0 := k0.below hb11
    replace BR0 := BR0.below hb11
    replace bb := bb.trans (hb11.mono bb.size)
    have hsz11 := bb.size
    have s_2 := sB
    have s_5 := sB
    have s_6 := sB
    obtain ⟨u6, t6, rfl, q6, d6⟩ := q6
    obtain ⟨A9, c9, rfl, _⟩ := id q6
    obtain ⟨D9, e9, rfl, _⟩ := id d6
    refine any_store (i := 7) (by kernel_rfl) rfl rfl rfl rfl rfl rfl (cells := [.bool (ngB (q).num), .slice A9 (digs 4294967296 (q).num.natAbs).length c9, .slice D9 (digs 4294967296 (q).den).length e9]) rfl BR0 rfl (by kernel_rfl) (one3 rfl rfl rfl) fun w9 hg9 B9 => ?_
    have k9 := off q6 BR0 no_ints3 hg9
    have d9 := off d6 BR0 no_ints3 hg9
    have f9 := f6.mono (show w.heap.size ≤ _ from s_6)
    have bb9 := bb.trans ((Below.refl _ _).grown hg9 bb.size (fun g hg => by injection hg with hg; omega))
    obtain ⟨C0, C1, C2, _, _, _⟩ := three B9
    refine any_done (by kernel_rfl) ?_
    go_wp2
    exact bodyPost_ret (v := .agg #[.bool (ngB (q).num), .slice A9 (digs 4294967296 (q).num.natAbs).length c9, .slice D9 (digs 4294967296 (q).den).length e9]) (by simp [results, Tryz.results10, go_sem, C0, C1, C2]) rfl ⟨_, rfl, ⟨_, _, rfl, k9, d9⟩, f9, bb9⟩
set_option maxHeartbeats 1600000 in
set_option maxRecDepth 100000 in
theorem qmul_any (a0 : Value) (x : Rat) (a1 : Value) (y : Rat) (w : World) (h0 : IsP w a0 x) (h1 : IsP w a1 y) (hl : lenQ x 10000) (hl2 : lenQ y 10000) :
    Calls Tryz.prog 16 #[a0, a1] w (RetPF (x * y) w) := by
  obtain ⟨u0, t0, rfl, s0, r0⟩ := h0
  obtain ⟨A0, c0, rfl, _⟩ := id s0
  obtain ⟨D0, e0, rfl, _⟩ := id r0
  obtain ⟨u1, t1, rfl, s1, r1⟩ := h1
  obtain ⟨A1, c1, rfl, _⟩ := id s1
  obtain ⟨D1, e1, rfl, _⟩ := id r1
  have HM : Hid (mkRat (x.num * y.num) (x.den * y.den) = x * y) := (Rat.mul_def' x y).symm
  have HLZ : Hid (lenZ (x.num * y.num) ≤ 30000) := Nat.le_trans (lenZ_mul_le hl.1 hl2.1) (by decide)
  have HLD : Hid ((digs 4294967296 (x.den * y.den)).length ≤ 30000) := by show _ ≤ _; have := mul_len x.den y.den; have h1 := hl.2; have h2 := hl2.2; omega
  go_enter Tryz.func16, Tryz.ntmps16
  go_upto_region 1 with (fail)
  obtain ⟨wx, hwx, bb, B0, B1, BR0, hsz⟩ := vars3 w 36 36 36 #[.bool (ngB (x).num), .slice A0 (digs 10000 (x).num.natAbs).length c0, .slice D0 (digs 10000 (x).den).length e0] #[.bool (ngB (y).num), .slice A1 (digs 10000 (y).num.natAbs).length c1, .slice D1 (digs 10000 (y).den).length e1] #[.bool false, .slice none 0 0, .slice none 0 0]
  rw [hwx]
  clear hwx
  have k0s := s0.below bb
  have k0d := r0.below bb
  have k0z : IsR wx (.agg #[.bool (ngB (x).num), .slice A0 (digs 10000 (x).num.natAbs).length c0]) (x).num := ⟨_, rfl, k0s⟩
  have k0 : IsP wx (.agg #[.bool (ngB (x).num), .slice A0 (digs 10000 (x).num.natAbs).length c0, .slice D0 (digs 10000 (x).den).length e0]) (x) := ⟨_, _, rfl, k0s, k0d⟩
  have k1s := s1.below bb
  have k1d := r1.below bb
  have k1z : IsR wx (.agg #[.bool (ngB (y).num), .slice A1 (digs 10000 (y).num.natAbs).length c1]) (y).num := ⟨_, rfl, k1s⟩
  have k1 : IsP wx (.agg #[.bool (ngB (y).num), .slice A1 (digs 10000 (y).num.natAbs).length c1, .slice D1 (digs 10000 (y).den).length e1]) (y) := ⟨_, _, rfl, k1s, k1d⟩
  have hsz0 := bb.size
  have sB := bb.size
  refine flow 11 [Pd.eq (.pointer (some ⟨w.heap.size, 0, none⟩)), Pd.eq (.agg #[.bool (ngB (x).num), .slice A0 (digs 10000 (x).num.natAbs).length c0]), Pd.eq (.pointer (some ⟨w.heap.size + 1, 0, none⟩)), Pd.eq (.agg #[.bool (ngB (y).num), .slice A1 (digs 10000 (y).num.natAbs).length c1]), pr ((x.num * y.num)), Pd.eq (.pointer (some ⟨w.heap.size, 2, none⟩)), Pd.eq (.slice D0 (digs 10000 (x).den).length e0), Pd.eq (.pointer (some ⟨w.heap.size + 1, 2, none⟩)), Pd.eq (.slice D1 (digs 10000 (y).den).length e1), ps .i64 (digs 10000 (x.den * y.den)) wx.heap.size, ppf (x * y) wx.heap.size] (by kernel_rfl) (by kernel_rfl) ?ob12 ?done12
  case ob12 =>
    refine And.intro (ob_fieldAddr rfl (wt_none rfl) (ev_far rfl rfl) (fun _ => by kernel_rfl) (fun _ => rfl)) ?_
    refine And.intro (ob_load rfl (wt_none rfl) (ev_dep (j := 0) (by kernel_rfl) rfl rfl) (fun w2 hb => run_loadPart Tryz.underlying34 rfl (by kernel_rfl) (B0.drew.below hb) rfl) (fun _ _ => rfl)) ?_
    refine And.intro (ob_fieldAddr rfl (wt_none rfl) (ev_far rfl rfl) (fun _ => by kernel_rfl) (fun _ => rfl)) ?_
    refine And.intro (ob_load rfl (wt_none rfl) (ev_dep (j := 2) (by kernel_rfl) rfl rfl) (fun w2 hb => run_loadPart Tryz.underlying34 rfl (by kernel_rfl) (B1.drew.below hb) rfl) (fun _ _ => rfl)) ?_
    refine And.intro (ob_call2 rfl Tryz.func52 (by kernel_rfl) (wt_none rfl) (ev_dep (j := 1) (by kernel_rfl) rfl rfl) (ev_dep (j := 3) (by kernel_rfl) rfl rfl) (fun w2 u0 u1 hb h0 h1 => by obtain rfl := h0; obtain rfl := h1; exact (rmul_any _ _ _ _ _ (k0z.drew.below hb) (k1z.drew.below hb) (Nat.le_trans hl.1 (by decide)) (Nat.le_trans hl2.1 (by decide))).mono fun e w3 h => RetR.pd h)) ?_
    refine And.intro (ob_fieldAddr rfl (wt_none rfl) (ev_far rfl rfl) (fun _ => by kernel_rfl) (fun _ => rfl)) ?_
    refine And.intro (ob_load rfl (wt_none rfl) (ev_dep (j := 5) (by kernel_rfl) rfl rfl) (fun w2 hb => run_load1 Tryz.underlying32 rfl ((B0.drew.below hb).cell 2)) (fun _ _ => rfl)) ?_
    refine And.intro (ob_fieldAddr rfl (wt_none rfl) (ev_far rfl rfl) (fun _ => by kernel_rfl) (fun _ => rfl)) ?_
    refine And.intro (ob_load rfl (wt_none rfl) (ev_dep (j := 7) (by kernel_rfl) rfl rfl) (fun w2 hb => run_load1 Tryz.underlying32 rfl ((B1.drew.below hb).cell 2)) (fun _ _ => rfl)) ?_
    refine And.intro (ob_call2 rfl Tryz.func31 (by kernel_rfl) (wt_none rfl) (ev_dep (j := 6) (by kernel_rfl) rfl rfl) (ev_dep (j := 8) (by kernel_rfl) rfl rfl) (fun w2 u0 u1 hb h0 h1 => by obtain rfl := h0; obtain rfl := h1; exact (refMul_any _ _ x.den y.den _ (k0d.drew.below hb) (k1d.drew.below hb) (Nat.le_trans (dec_le _) (by have := hl.2; omega)) (Nat.le_trans (dec_le _) (by have := hl2.2; omega))).mono fun e w3 h => RetS.pd h hb.size)) ?_
    refine And.intro (ob_call2 rfl Tryz.func30 (by kernel_rfl) (wt_none rfl) (ev_dep (j := 4) (by kernel_rfl) rfl rfl) (ev_dep (j := 9) (by kernel_rfl) rfl rfl) (fun w2 u0 u1 hb h0 h1 => by exact (HM.out ▸ rlow_any _ (x.num * y.num) _ (x.den * y.den) _ h0 h1.1 (Nat.mul_ne_zero x.den_nz y.den_nz) HLZ.out HLD.out).mono fun e w3 h => RetPF.pdf h hb.size)) ?_
    trivial
  case done12 =>
    refine fun w11 hb11 v0 h0 v1 h1 v2 h2 v3 h3 v4 h4 v5 h5 v6 h6 v7 h7 v8 h8 v9 h9 v10 h10 b hbf => ?_
    obtain rfl := h0; obtain rfl := h1; obtain rfl := h2; obtain rfl := h3; obtain rfl := h5; obtain rfl := h6; obtain rfl := h7; obtain rfl := h8
    have q4 := h4
    obtain ⟨q9, f9⟩ := h9
    obtain ⟨q10, f10⟩ := h10
    simp only [Act.put, List.setIfInBounds_toArray, List.set_cons_zero, List.set_cons_succ] at hbf
    subst hbf
    replace B0 := B0.below hb11
    replace k0s := k0s.below hb11
    replace k0d := k0d.below hb11
    replace k0z := k0z.below hb11
    replace k0 := k0.below hb11
    replace B1 := B1.below hb11
    replace k1s := k1s.below hb11
    replace k1d := k1d.below hb11
    replace k1z := k1z.below hb11
    replace k1 := k1.below hb11
    replace BR0 := BR0.below hb11
    replace bb := bb.trans (hb11.mono bb.size)
    have hsz11 := bb.size
    have s_9 := sB
    have s_10 := sB
    obtain ⟨u10, t10, rfl, q10, d10⟩ := q10
    obtain ⟨A9, c9, rfl, _⟩ := id q10
    obtain ⟨D9, e9, rfl, _⟩ := id d10
    refine any_store (i := 11) (by kernel_rfl) rfl rfl rfl rfl rfl rfl (cells := [.bool (ngB (x * y).num), .slice A9 (digs 10000 (x * y).num.natAbs).length c9, .slice D9 (digs 10000 (x * y).den).length e9]) rfl BR0 rfl (by kernel_rfl) (one3 rfl rfl rfl) fun w9 hg9 B9 => ?_
    have k9 := off q10 BR0 no_ints3 hg9
    have d9 := off d10 BR0 no_ints3 hg9
    have f9 := f10.mono (show w.heap.size ≤ _ from s_10)
    have bb9 := bb.trans ((Below.refl _ _).grown hg9 bb.size (fun g hg => by injection hg with hg; omega))
    obtain ⟨C0, C1, C2, _, _, _⟩ := three B9
    refine any_done (by kernel_rfl) ?_
    go_wp2
    exact bodyPost_ret (v := .agg #[.bool (ngB (x * y).num), .slice A9 (digs 10000 (x * y).num.natAbs).length c9, .slice D9 (digs 10000 (x * y).den).length e9]) (by simp [results, Tryz.results16, go_sem, C0, C1, C2]) rfl ⟨_, rfl, ⟨_, _, rfl, k9, d9⟩, f9, bb9⟩
set_option maxHeartbeats 1600000 in
set_option maxRecDepth 100000 in
theorem rnum7_any (n : Int) (w : World) (h1 : -9223372036854775807 ≤ n) (h2 : n ≤ 9223372036854775807) :
    Calls Tryz.prog 53 #[.int .i64 n] w (RetR n w) := by
  by_cases hn : n < 0
  · have HZ : Hid (sg true n.natAbs = n) := by show _ = _; rw [sg_true]; omega
    go_enter Tryz.func53, Tryz.ntmps53
    go_upto_region 1 with (fail)
    obtain ⟨wx, hwx, bb, BR0, hsz⟩ := vars1 w 34 #[.bool false, .slice none 0 0]
    rw [hwx]
    clear hwx
    go_upto_region 2 with (fail)
    refine flowp 4 [Pd.eq (.int .i64 n), Pd.eq (.int .i64 (-n)), ps .i64 (digs 10000 n.natAbs) wx.heap.size, pr (n)] (by kernel_rfl) ?ob16 ?done16
    case ob16 =>
      refine And.intro (ob_move rfl (wt_none rfl) (ev_far rfl rfl) (fun _ _ h => h)) ?_
      refine And.intro (ob_un rfl (wt_none rfl) (ev_dep (j := 0) (by kernel_rfl) rfl rfl) (fun _ => un_neg _ _ (by omega)) (fun _ => rfl)) ?_
      refine And.intro (ob_call1 rfl Tryz.func28 (by kernel_rfl) (wt_none rfl) (ev_dep (j := 1) (by kernel_rfl) rfl rfl) (fun w2 u0 hb h0 => by obtain rfl := h0; exact (refNum_wide _ n.natAbs _ (by omega) (by omega)).mono fun e w3 h => RetS.pd h hb.size)) ?_
      refine And.intro (ob_call2 rfl Tryz.func75 (by kernel_rfl) (wt_none rfl) (ev_const _) (ev_dep (j := 2) (by kernel_rfl) rfl rfl) (fun w2 u0 u1 hb h0 h1 => by obtain rfl := h0; exact made_pd _ _ _ n _ h1.1 HZ.out)) ?_
      trivial
    case done16 =>
      refine fun w1 hb1 v0 h0 v1 h1 v2 h2 v3 h3 b hbf => ?_
      obtain rfl := h0; obtain rfl := h1
      obtain ⟨q2, f2⟩ := h2
      have q3 := h3
      simp only [Act.put, List.setIfInBounds_toArray, List.set_cons_zero, List.set_cons_succ] at hbf
      subst hbf
      replace BR0 := BR0.below hb1
      replace bb := bb.trans (hb1.mono bb.size)
      have hsz1 := bb.size
      obtain ⟨u3, rfl, q3⟩ := q3
      obtain ⟨A9, c9, rfl, _⟩ := id q3
      refine ops_store (i := 4) rfl rfl rfl rfl rfl rfl (cells := [.bool (ngB n), .slice A9 (digs 10000 n.natAbs).length c9]) rfl BR0 rfl (by kernel_rfl) (one2 rfl rfl) fun w9 hg9 B9 => ?_
      have k9 := off q3 BR0 no_ints2 hg9
      have bb9 := bb.trans ((Below.refl _ _).grown hg9 bb.size (fun g hg => by injection hg with hg; omega))
      obtain ⟨c0, c1, _, _⟩ := Blk.two B9
      refine ops_done ?_
      go_wp2
      exact bodyPost_ret (v := .agg #[.bool (ngB n), .slice A9 (digs 10000 n.natAbs).length c9]) (by simp [results, Tryz.results53, go_sem, c0, c1]) rfl ⟨_, rfl, ⟨_, rfl, k9⟩, bb9⟩
  · have HZ : Hid (sg false n.natAbs = n) := by show _ = _; rw [sg_false]; omega
    go_enter Tryz.func53, Tryz.ntmps53
    go_upto_region 1 with (fail)
    obtain ⟨wx, hwx, bb, BR0, hsz⟩ := vars1 w 34 #[.bool false, .slice none 0 0]
    rw [hwx]
    clear hwx
    go_upto_region 3 with (fail)
    refine flowp 3 [Pd.eq (.int .i64 n), ps .i64 (digs 10000 n.natAbs) wx.heap.size, pr (n)] (by kernel_rfl) ?ob17 ?done17
    case ob17 =>
      refine And.intro (ob_move rfl (wt_none rfl) (ev_far rfl rfl) (fun _ _ h => h)) ?_
      refine And.intro (ob_call1 rfl Tryz.func28 (by kernel_rfl) (wt_none rfl) (ev_dep (j := 0) (by kernel_rfl) rfl rfl) (fun w2 u0 hb h0 => by obtain rfl := h0; exact (refNum_wide _ n.natAbs _ (by omega) (by omega)).mono fun e w3 h => RetS.pd h hb.size)) ?_
      refine And.intro (ob_call2 rfl Tryz.func75 (by kernel_rfl) (wt_none rfl) (ev_const _) (ev_dep (j := 1) (by kernel_rfl) rfl rfl) (fun w2 u0 u1 hb h0 h1 => by obtain rfl := h0; exact made_pd _ _ _ n _ h1.1 HZ.out)) ?_
      trivial
    case done17 =>
      refine fun w1 hb1 v0 h0 v1 h1 v2 h2 b hbf => ?_
      obtain rfl := h0
      obtain ⟨q1, f1⟩ := h1
      have q2 := h2
      simp only [Act.put, List.setIfInBounds_toArray, List.set_cons_zero, List.set_cons_succ] at hbf
      subst hbf
      replace BR0 := BR0.below hb1
      replace bb := bb.trans (hb1.mono bb.size)
      have hsz1 := bb.size
      obtain ⟨u2, rfl, q2⟩ := q2
      obtain ⟨A9, c9, rfl, _⟩ := id q2
      refine ops_store (i := 3) rfl rfl rfl rfl rfl rfl (cells := [.bool (ngB n), .slice A9 (digs 10000 n.natAbs).length c9]) rfl BR0 rfl (by kernel_rfl) (one2 rfl rfl) fun w9 hg9 B9 => ?_
      have k9 := off q2 BR0 no_ints2 hg9
      have bb9 := bb.trans ((Below.refl _ _).grown hg9 bb.size (fun g hg => by injection hg with hg; omega))
      obtain ⟨c0, c1, _, _⟩ := Blk.two B9
      refine ops_done ?_
      go_wp2
      exact bodyPost_ret (v := .agg #[.bool (ngB n), .slice A9 (digs 10000 n.natAbs).length c9]) (by simp [results, Tryz.results53, go_sem, c0, c1]) rfl ⟨_, rfl, ⟨_, rfl, k9⟩, bb9⟩
set_option maxHeartbeats 1600000 in
set_option maxRecDepth 100000 in
theorem qnum_any (n : Int) (d : Int) (w : World)  (dn : Nat) (hd : d = (dn : Int)) (h1 : -9223372036854775807 ≤ n) (h2 : n ≤ 9223372036854775807) (h3 : dn ≠ 0) (h4 : dn ≤ 9223372036854775807) :
    Calls Tryz.prog 17 #[.int .i64 n, .int .i64 d] w (RetPF (mkRat n dn) w) := by
  have HLZ : Hid (lenZ n ≤ 30000) := Nat.le_trans (dig32 (by omega)) (by decide)
  have HLD : Hid ((digs 4294967296 dn).length ≤ 30000) := Nat.le_trans (dig32 (by omega)) (by decide)
  go_enter Tryz.func17, Tryz.ntmps17
  go_upto_region 1 with (fail)
  obtain ⟨wx, hwx, bb, BR0, hsz⟩ := vars1 w 36 #[.bool false, .slice none 0 0, .slice none 0 0]
  rw [hwx]
  clear hwx
  have hsz0 := bb.size
  have sB := bb.size
  refine flowp 5 [Pd.eq (.int .i64 n), pr (n), Pd.eq (.int .i64 d), ps .i64 (digs 10000 dn) wx.heap.size, ppf (mkRat n dn) wx.heap.size] (by kernel_rfl) ?ob18 ?done18
  case ob18 =>
    refine And.intro (ob_move rfl (wt_none rfl) (ev_far rfl rfl) (fun _ _ h => h)) ?_
    refine And.intro (ob_call1 rfl Tryz.func53 (by kernel_rfl) (wt_none rfl) (ev_dep (j := 0) (by kernel_rfl) rfl rfl) (fun w2 u0 hb h0 => by obtain rfl := h0; exact (rnum7_any n _ h1 h2).mono fun e w3 h => RetR.pd h)) ?_
    refine And.intro (ob_move rfl (wt_none rfl) (ev_far rfl rfl) (fun _ _ h => h)) ?_
    refine And.intro (ob_call1 rfl Tryz.func28 (by kernel_rfl) (wt_none rfl) (ev_dep (j := 2) (by kernel_rfl) rfl rfl) (fun w2 u0 hb h0 => by obtain rfl := h0; exact (refNum_wide _ dn _ hd h4).mono fun e w3 h => RetS.pd h hb.size)) ?_
    refine And.intro (ob_call2 rfl Tryz.func30 (by kernel_rfl) (wt_none rfl) (ev_dep (j := 1) (by kernel_rfl) rfl rfl) (ev_dep (j := 3) (by kernel_rfl) rfl rfl) (fun w2 u0 u1 hb h0 h1 => by exact (rlow_any _ n _ dn _ h0 h1.1 h3 HLZ.out HLD.out).mono fun e w3 h => RetPF.pdf h hb.size)) ?_
    trivial
  case done18 =>
    refine fun w11 hb11 v0 h0 v1 h1 v2 h2 v3 h3 v4 h4 b hbf => ?_
    obtain rfl := h0; obtain rfl := h2
    have q1 := h1
    obtain ⟨q3, f3⟩ := h3
    obtain ⟨q4, f4⟩ := h4
    simp only [Act.put, List.setIfInBounds_toArray, List.set_cons_zero, List.set_cons_succ] at hbf
    subst hbf
    replace BR0 := BR0.below hb11
    replace bb := bb.trans (hb11.mono bb.size)
    have hsz11 := bb.size
    have s_3 := sB
    have s_4 := sB
    obtain ⟨u4, t4, rfl, q4, d4⟩ := q4
    obtain ⟨A9, c9, rfl, _⟩ := id q4
    obtain ⟨D9, e9, rfl, _⟩ := id d4
    refine ops_store (i := 5) rfl rfl rfl rfl rfl rfl (cells := [.bool (ngB (mkRat n dn).num), .slice A9 (digs 10000 (mkRat n dn).num.natAbs).length c9, .slice D9 (digs 10000 (mkRat n dn).den).length e9]) rfl BR0 rfl (by kernel_rfl) (one3 rfl rfl rfl) fun w9 hg9 B9 => ?_
    have k9 := off q4 BR0 no_ints3 hg9
    have d9 := off d4 BR0 no_ints3 hg9
    have f9 := f4.mono (show w.heap.size ≤ _ from s_4)
    have bb9 := bb.trans ((Below.refl _ _).grown hg9 bb.size (fun g hg => by injection hg with hg; omega))
    obtain ⟨C0, C1, C2, _, _, _⟩ := three B9
    refine ops_done ?_
    go_wp2
    exact bodyPost_ret (v := .agg #[.bool (ngB (mkRat n dn).num), .slice A9 (digs 10000 (mkRat n dn).num.natAbs).length c9, .slice D9 (digs 10000 (mkRat n dn).den).length e9]) (by simp [results, Tryz.results17, go_sem, C0, C1, C2]) rfl ⟨_, rfl, ⟨_, _, rfl, k9, d9⟩, f9, bb9⟩
set_option maxHeartbeats 1600000 in
set_option maxRecDepth 100000 in
theorem qsame_parts (b : Bool) (u0 t0 u1 t1 : Value) (z : Int) (d : Nat) (w : World) (hb : b = ngB z) (h0 : IsS w .u64 u0 (digs 4294967296 z.natAbs)) (j0 : IsS w .u64 t0 (digs 4294967296 d)) (h1 : IsS w .u64 u1 (digs 4294967296 z.natAbs)) (j1 : IsS w .u64 t1 (digs 4294967296 d)) :
    Calls Tryz.prog 9 #[.agg #[.bool b, u0, t0], .agg #[.bool b, u1, t1]] w (RetV (.bool true) w) := by
  obtain ⟨A0, c0, rfl, _⟩ := id h0
  obtain ⟨D0, e0, rfl, _⟩ := id j0
  obtain ⟨A1, c1, rfl, _⟩ := id h1
  obtain ⟨D1, e1, rfl, _⟩ := id j1
  subst hb
  go_enter Tryz.func9, Tryz.ntmps9
  go_upto_region 1 with (fail)
  obtain ⟨wx, hwx, bb, B0, B1, hsz⟩ := vars2 w 27 27 #[.bool (ngB z), .slice A0 (digs 4294967296 z.natAbs).length c0, .slice D0 (digs 4294967296 d).length e0] #[.bool (ngB z), .slice A1 (digs 4294967296 z.natAbs).length c1, .slice D1 (digs 4294967296 d).length e1]
  rw [hwx]
  clear hwx
  have k0s := h0.below bb
  have k0d := j0.below bb
  have k0z : IsZ wx (.agg #[.bool (ngB z), .slice A0 (digs 4294967296 z.natAbs).length c0]) z := ⟨_, rfl, k0s⟩
  have k1s := h1.below bb
  have k1d := j1.below bb
  have k1z : IsZ wx (.agg #[.bool (ngB z), .slice A1 (digs 4294967296 z.natAbs).length c1]) z := ⟨_, rfl, k1s⟩
  refine flowp 13 [Pd.eq (.pointer (some ⟨w.heap.size, 0, none⟩)), Pd.eq (.agg #[.bool (ngB z), .slice A0 (digs 4294967296 z.natAbs).length c0]), Pd.eq (.pointer (some ⟨w.heap.size + 1, 0, none⟩)), Pd.eq (.agg #[.bool (ngB z), .slice A1 (digs 4294967296 z.natAbs).length c1]), Pd.eq (.bool true), Pd.eq (.bool true), Pd.eq (.pointer (some ⟨w.heap.size, 2, none⟩)), Pd.eq (.slice D0 (digs 4294967296 d).length e0), Pd.eq (.pointer (some ⟨w.heap.size + 1, 2, none⟩)), Pd.eq (.slice D1 (digs 4294967296 d).length e1), Pd.eq (.bool true), Pd.eq (.bool true), Pd.eq (.bool true)] (by kernel_rfl) ?ob19 ?done19
  case ob19 =>
    refine And.intro (ob_fieldAddr rfl (wt_none rfl) (ev_far rfl rfl) (fun _ => by kernel_rfl) (fun _ => rfl)) ?_
    refine And.intro (ob_load rfl (wt_none rfl) (ev_dep (j := 0) (by kernel_rfl) rfl rfl) (fun w2 hb => run_loadPart Tryz.underlying25 rfl (by kernel_rfl) (B0.below hb) rfl) (fun _ _ => rfl)) ?_
    refine And.intro (ob_fieldAddr rfl (wt_none rfl) (ev_far rfl rfl) (fun _ => by kernel_rfl) (fun _ => rfl)) ?_
    refine And.intro (ob_load rfl (wt_none rfl) (ev_dep (j := 2) (by kernel_rfl) rfl rfl) (fun w2 hb => run_loadPart Tryz.underlying25 rfl (by kernel_rfl) (B1.below hb) rfl) (fun _ _ => rfl)) ?_
    refine And.intro (ob_call2 rfl Tryz.func34 (by kernel_rfl) (wt_none rfl) (ev_dep (j := 1) (by kernel_rfl) rfl rfl) (ev_dep (j := 3) (by kernel_rfl) rfl rfl) (fun w2 u0 u1 hb h0 h1 => by obtain rfl := h0; obtain rfl := h1; exact (zsame_one _ _ z _ (k0z.below hb) (k1z.below hb)).mono fun e w3 h => RetV.pd h)) ?_
    refine And.intro (ob_move rfl (wt_none rfl) (ev_dep (j := 4) (by kernel_rfl) rfl rfl) (fun _ _ h => h)) ?_
    refine And.intro (ob_fieldAddr rfl (wt_dep (c := true) (b := true) (g := 5) rfl (by kernel_rfl) rfl rfl rfl (by exact fun _ _ h => h)) (ev_far rfl rfl) (fun _ => by kernel_rfl) (fun _ => rfl)) ?_
    refine And.intro (ob_load rfl (wt_dep (c := true) (b := true) (g := 5) rfl (by kernel_rfl) rfl rfl rfl (by exact fun _ _ h => h)) (ev_dep (j := 6) (by kernel_rfl) rfl rfl) (fun w2 hb => run_load1 Tryz.underlying23 rfl ((B0.below hb).cell 2)) (fun _ _ => rfl)) ?_
    refine And.intro (ob_fieldAddr rfl (wt_dep (c := true) (b := true) (g := 5) rfl (by kernel_rfl) rfl rfl rfl (by exact fun _ _ h => h)) (ev_far rfl rfl) (fun _ => by kernel_rfl) (fun _ => rfl)) ?_
    refine And.intro (ob_load rfl (wt_dep (c := true) (b := true) (g := 5) rfl (by kernel_rfl) rfl rfl rfl (by exact fun _ _ h => h)) (ev_dep (j := 8) (by kernel_rfl) rfl rfl) (fun w2 hb => run_load1 Tryz.underlying23 rfl ((B1.below hb).cell 2)) (fun _ _ => rfl)) ?_
    refine And.intro (ob_call2 rfl Tryz.func35 (by kernel_rfl) (wt_dep (c := true) (b := true) (g := 5) rfl (by kernel_rfl) rfl rfl rfl (by exact fun _ _ h => h)) (ev_dep (j := 7) (by kernel_rfl) rfl rfl) (ev_dep (j := 9) (by kernel_rfl) rfl rfl) (fun w2 u0 u1 hb h0 h1 => by obtain rfl := h0; obtain rfl := h1; exact (same_one _ _ d _ (k0d.below hb) (k1d.below hb)).mono fun e w3 h => RetV.pd h)) ?_
    refine And.intro (ob_pick (b := true) rfl (wt_none rfl) (ev_dep (j := 5) (by kernel_rfl) rfl rfl) (ev_dep (j := 10) (by kernel_rfl) rfl rfl) (fun _ _ h => h)) ?_
    refine And.intro (ob_assign rfl (wt_none rfl) (ev_dep (j := 11) (by kernel_rfl) rfl rfl) (fun _ _ h => h)) ?_
    trivial
  case done19 =>
    refine fun w1 hb1 v0 h0 v1 h1 v2 h2 v3 h3 v4 h4 v5 h5 v6 h6 v7 h7 v8 h8 v9 h9 v10 h10 v11 h11 v12 h12 b hbf => ?_
    obtain rfl := h0; obtain rfl := h1; obtain rfl := h2; obtain rfl := h3; obtain rfl := h4; obtain rfl := h5; obtain rfl := h6; obtain rfl := h7; obtain rfl := h8; obtain rfl := h9; obtain rfl := h10; obtain rfl := h11; obtain rfl := h12
    simp only [Act.put, List.setIfInBounds_toArray, List.set_cons_zero, List.set_cons_succ] at hbf
    subst hbf
    refine ops_done ?_
    go_wp2
    go_ret
    exact ⟨rfl, bb.trans (hb1.mono bb.size)⟩
theorem qsame_one (a0 a1 : Value) (x : Rat) (w : World) (h0 : IsQ w a0 x) (h1 : IsQ w a1 x) : Calls Tryz.prog 9 #[a0, a1] w (RetV (.bool true) w) := by
  obtain ⟨u0, t0, rfl, s0, r0⟩ := h0
  obtain ⟨u1, t1, rfl, s1, r1⟩ := h1
  exact qsame_parts _ u0 t0 u1 t1 x.num x.den w rfl s0 r0 s1 r1
end Go.Proofs.YtpcllhdfalebbaaGreatDoor.rat
namespace Go.Proofs.YtpcllhdfalebbaaGreatDoor.rat
open Go.RowKit Go.Proofs.YtpcllhdfalebbaaGreatDoor.num Go.Proofs.YtpcllhdfalebbaaGreatDoor.mem Go.Proofs.YtpcllhdfalebbaaGreatDoor.nat Go.Proofs.YtpcllhdfalebbaaGreatDoor.txt Go.Proofs.YtpcllhdfalebbaaGreatDoor.str Go.Proofs.YtpcllhdfalebbaaGreatDoor.flow Go.Proofs.YtpcllhdfalebbaaGreatDoor.whl
set_option linter.unusedVariables false
/-- The fraction that Clean makes of any. -/
def lowD (d : Nat) : Nat := if d = 0 then 1 else d
theorem lowD_pos (d : Nat) : lowD d ≠ 0 := by unfold lowD; split <;> omega
theorem lowD_len {d m : Nat} (h : (digs 4294967296 d).length ≤ m) (hm : 1 ≤ m) : (digs 4294967296 (lowD d)).length ≤ m := by
  unfold lowD
  split
  · exact Nat.le_trans (digs_len_le (k := 1) (by omega) (by omega)) hm
  · exact h
def cleanQ (b : Bool) (l m : List Nat) (most : Nat) : Rat := mkRat (cleanZ b l most) (lowD (cleaned m most))
theorem cleanQ_len (b : Bool) (l m : List Nat) {most : Nat} (hm : 1 ≤ most) : lenQ (cleanQ b l m most) most := lenQ_mk (lowD_pos _) (cleanZ_len _ _ _) (lowD_len (cleaned_len _ _) hm)
set_option maxHeartbeats 6400000 in
set_option maxRecDepth 100000 in
theorem qclean_any (b : Bool) (v u : Value) (l m : List Nat) (mI : Int) (most : Nat) (w : World) (hmI : mI = (most : Int)) (h0 : IsS w .u64 v l) (u0 : Lt 18446744073709551616 l) (h1 : IsS w .u64 u m) (u1 : Lt 18446744073709551616 m) (hmost : most ≤ 1000) (hm1 : 1 ≤ most) :
    Calls Tryz.prog 11 #[.agg #[.bool b, v, u], .int .i64 mI] w (RetQ (cleanQ b l m most) w) := by
  obtain ⟨A0, c0, rfl, _⟩ := id h0
  obtain ⟨D0, e0, rfl, _⟩ := id h1
  have HM := Lib.hid hmI
  clear hmI
  obtain ⟨y, hy⟩ : ∃ y, y = cleaned m most := ⟨_, rfl⟩
  have my : (digs 4294967296 y).length ≤ most := by rw [hy]; exact cleaned_len _ _
  have HY := Lib.hid hy.symm
  obtain ⟨x, hx⟩ : ∃ x, x = cleanZ b l most := ⟨_, rfl⟩
  have lx : lenZ x ≤ most := by rw [hx]; exact cleanZ_len _ _ _
  have HX := Lib.hid hx.symm
  have HQ : Hid (cleanQ b l m most = mkRat x (lowD y)) := by show _ = _; unfold cleanQ; rw [hx, hy]
  clear hx hy
  go_enter Tryz.func11, Tryz.ntmps11
  go_upto_region 1 with (fail)
  obtain ⟨wx, hwx, bb, B0, B1, hsz⟩ := vars2 w 27 27 #[.bool b, .slice A0 l.length c0, .slice D0 m.length e0] #[.bool false, .slice none 0 0, .slice none 0 0]
  rw [hwx]
  clear hwx
  have k0s := h0.below bb
  have k0d := h1.below bb
  obtain ⟨x00, x01, x02, _, _, _⟩ := three B0
  have hs0 := bb.size
  go_wp2_with fail
  refine (HY.out ▸ clean_any _ m _ most _ HM.out k0d u1 (Nat.le_trans hmost (by decide))).mono ?_
  rintro e w1 ⟨v1, rfl, k1, f1, b1⟩
  obtain ⟨A1, c1, rfl, _⟩ := id k1
  replace B0 := B0.below b1
  replace B1 := B1.below b1
  replace k0s := k0s.below b1
  replace bb := bb.trans (b1.mono bb.size)
  have hs1 := bb.size
  clear x00 x01 x02 k0d
  have HL1 : Hid (lenZ x ≤ 30000) := Nat.le_trans lx (by omega)
  have HL2 : Hid ((digs 4294967296 (lowD y)).length ≤ 30000) := Nat.le_trans (lowD_len my (by omega)) (by omega)
  have HLQ : Hid (lenQ (mkRat x (lowD y)) 30000) := lenQ_mk (lowD_pos y) HL1.out HL2.out
  by_cases hy0 : y = 0
  · have HZ : Hid ((digs 4294967296 y).length = 0) := by show _ = _; rw [hy0, digs_zero]; rfl
    have HO : Hid (digs 4294967296 (lowD y) = [1]) := by show _ = _; rw [hy0]; exact digs_one 1 (by omega) (by omega)
    have hz0 : (digs 4294967296 y).length = 0 := HZ.out
    clear hy0
    have bA := below_alloc (Nat.le_refl w1.heap.size) (.cells #[.int .u64 1] 60)
    have k1o := (own_lit1 w1 w1.heap.size 60 .u64 (show (1 : Int) = ((1 : Nat) : Int) from rfl) (Nat.le_refl _)).isS
    rw [← HO.out] at k1o
    replace k0s := k0s.below bA
    obtain ⟨x10, x11, x12, _, _, _⟩ := three (B0.below bA)
    replace B1 := B1.below bA
    replace bb := bb.trans (bA.mono bb.size)
    have hs2 := bb.size
    clear k1 f1
    go_wp2_with fail
    refine (HX.out ▸ zclean_any b _ l _ most _ HM.out k0s u0 (Nat.le_trans hmost (by decide))).mono ?_
    rintro e w2 ⟨v2, rfl, k2, f2, b2⟩
    replace B1 := B1.below b2
    replace k1o := k1o.below b2
    replace bb := bb.trans (b2.mono bb.size)
    have hs3 := bb.size
    go_wp2_with fail
    refine (rof_any _ x _ k2 HL1.out).mono ?_
    rintro e w3 ⟨v3, rfl, k3, b3⟩
    replace B1 := B1.below b3
    replace k1o := k1o.below b3
    replace bb := bb.trans (b3.mono bb.size)
    have hs4 := bb.size
    go_wp2_with fail
    refine (refOf_any _ (lowD y) _ k1o (Nat.le_trans HL2.out (by decide))).mono ?_
    rintro e w4 ⟨v4, rfl, k4, f4, b4⟩
    replace B1 := B1.below b4
    replace k3 := k3.below b4
    replace bb := bb.trans (b4.mono bb.size)
    have hs5 := bb.size
    go_wp2_with fail
    refine (rlow_any _ x _ (lowD y) _ k3 k4 (lowD_pos y) HL1.out HL2.out).mono ?_
    rintro e w5 ⟨v5, rfl, k5, f5, b5⟩
    replace B1 := B1.below b5
    replace bb := bb.trans (b5.mono bb.size)
    have hs6 := bb.size
    have hg5 := B1.lt
    go_wp2_with fail
    refine (qback_any _ _ _ k5 HLQ.out).mono ?_
    rintro e w6 ⟨v6, rfl, ⟨u6, t6, rfl, k6, d6⟩, f6, b6⟩
    obtain ⟨A6, c6, rfl, _⟩ := id k6
    obtain ⟨D6, e6, rfl, _⟩ := id d6
    replace B1 := B1.below b6
    replace bb := bb.trans (b6.mono bb.size)
    obtain ⟨y0, y1, y2, z0, z1, z2⟩ := three B1
    go_wp2
    exact bodyPost_ret (v := .agg #[.bool (ngB (mkRat x (lowD y)).num), .slice A6 (digs 4294967296 (mkRat x (lowD y)).num.natAbs).length c6, .slice D6 (digs 4294967296 (mkRat x (lowD y)).den).length e6]) (by simp [results, Tryz.results11, go_sem, y0, y1, y2]) rfl (by rw [HQ.out]; exact endQ bb (by omega) hg5 k6 d6 f6)
  · have HZ : 0 < (digs 4294967296 y).length := len_pos (by omega)
    have HO : Hid (lowD y = y) := if_neg hy0
    clear hy0
    obtain ⟨x10, x11, x12, _, _, _⟩ := three B0
    have k1o : IsS w1 .u64 (.slice A1 (digs 4294967296 y).length c1) (digs 4294967296 (lowD y)) := by rw [HO.out]; exact k1
    go_wp2_with fail
    refine (HX.out ▸ zclean_any b _ l _ most _ HM.out k0s u0 (Nat.le_trans hmost (by decide))).mono ?_
    rintro e w2 ⟨v2, rfl, k2, f2, b2⟩
    replace B1 := B1.below b2
    replace k1o := k1o.below b2
    replace bb := bb.trans (b2.mono bb.size)
    have hs3 := bb.size
    go_wp2_with fail
    refine (rof_any _ x _ k2 HL1.out).mono ?_
    rintro e w3 ⟨v3, rfl, k3, b3⟩
    replace B1 := B1.below b3
    replace k1o := k1o.below b3
    replace bb := bb.trans (b3.mono bb.size)
    have hs4 := bb.size
    go_wp2_with fail
    refine (refOf_any _ (lowD y) _ k1o (Nat.le_trans HL2.out (by decide))).mono ?_
    rintro e w4 ⟨v4, rfl, k4, f4, b4⟩
    replace B1 := B1.below b4
    replace k3 := k3.below b4
    replace bb := bb.trans (b4.mono bb.size)
    have hs5 := bb.size
    go_wp2_with fail
    refine (rlow_any _ x _ (lowD y) _ k3 k4 (lowD_pos y) HL1.out HL2.out).mono ?_
    rintro e w5 ⟨v5, rfl, k5, f5, b5⟩
    replace B1 := B1.below b5
    replace bb := bb.trans (b5.mono bb.size)
    have hs6 := bb.size
    have hg5 := B1.lt
    go_wp2_with fail
    refine (qback_any _ _ _ k5 HLQ.out).mono ?_
    rintro e w6 ⟨v6, rfl, ⟨u6, t6, rfl, k6, d6⟩, f6, b6⟩
    obtain ⟨A6, c6, rfl, _⟩ := id k6
    obtain ⟨D6, e6, rfl, _⟩ := id d6
    replace B1 := B1.below b6
    replace bb := bb.trans (b6.mono bb.size)
    obtain ⟨y0, y1, y2, z0, z1, z2⟩ := three B1
    go_wp2
    exact bodyPost_ret (v := .agg #[.bool (ngB (mkRat x (lowD y)).num), .slice A6 (digs 4294967296 (mkRat x (lowD y)).num.natAbs).length c6, .slice D6 (digs 4294967296 (mkRat x (lowD y)).den).length e6]) (by simp [results, Tryz.results11, go_sem, y0, y1, y2]) rfl (by rw [HQ.out]; exact endQ bb (by omega) hg5 k6 d6 f6)
theorem qsame_eq (a0 a1 : Value) (x y : Rat) (w : World) (h0 : IsQ w a0 x) (h1 : IsQ w a1 y) (e : x = y) : Calls Tryz.prog 9 #[a0, a1] w (RetV (.bool true) w) := by subst e; exact qsame_one a0 a1 x w h0 h1
end Go.Proofs.YtpcllhdfalebbaaGreatDoor.rat
namespace Go.Proofs.YtpcllhdfalebbaaGreatDoor.rto
open Go.RowKit Go.Proofs.YtpcllhdfalebbaaGreatDoor.num Go.Proofs.YtpcllhdfalebbaaGreatDoor.mem Go.Proofs.YtpcllhdfalebbaaGreatDoor.nat Go.Proofs.YtpcllhdfalebbaaGreatDoor.txt Go.Proofs.YtpcllhdfalebbaaGreatDoor.str Go.Proofs.YtpcllhdfalebbaaGreatDoor.flow Go.Proofs.YtpcllhdfalebbaaGreatDoor.whl Go.Proofs.YtpcllhdfalebbaaGreatDoor.rat
set_option linter.unusedVariables false
theorem dig_range {c : UInt8} : dv c < 10 ↔ 48 ≤ c.toNat ∧ c.toNat ≤ 57 := by
  unfold dv
  constructor
  · intro h
    split at h
    · assumption
    · split at h <;> omega
  · intro h; rw [if_pos h]; omega
theorem dig_val {c : UInt8} (h : dv c < 10) : dv c = c.toNat - 48 := by
  unfold dv; rw [if_pos (dig_range.1 h)]
/-- A text's number, and whether it is one. -/
def RetNum (b : Bool) (l : List UInt8) (w : World) (e : Ending) (w' : World) : Prop := ∃ v, e = .returned (.tuple #[v, .bool b]) ∧ (b = true → IsS w' .i64 v (digs 10000 (numS 10 l))) ∧ Below w.heap.size w w'
set_option maxHeartbeats 3200000 in
set_option maxRecDepth 100000 in
theorem number_any (S : ByteArray) (l : List UInt8) (b : Bool) (w : World) (hS : StrIs S l) (hl : l.length ≤ 1000) (hbk : (b = true ∧ okS 10 l) ∨ (b = false ∧ ¬ okS 10 l)) :
    Calls Tryz.prog 29 #[.string S] w (RetNum b l w) := by
  have HSZ := Lib.hid hS.size
  have hs1 : S.size ≤ 1000 := by have := hS.size; omega
  have HBK := Lib.hid hbk
  clear hbk
  go_enter Tryz.func29, Tryz.ntmps29
  go_wp2
  go_loopw [4, 5] (fun vo vi wr => ∃ i x : Nat, i ≤ S.size ∧ Hid (x = numS 10 (l.take i)) ∧ Hid (x < 10000 ^ i) ∧ Hid (∀ c ∈ l.take i, dv c < 10) ∧ IsS wr .i64 vo (digs 10000 x) ∧ Below w.heap.size w wr ∧ vi = .int .i64 (i : Int)) (fun _ vi _ => S.size - (intOf vi).toNat)
  case atStart => exact ⟨0, 0, by omega, rfl, by show 0 < 10000 ^ 0; decide, by intro c hc; simp at hc, by rw [digs_zero]; exact (own_lit0 w w.heap.size _ .i64 (Nat.le_refl _)).isS, below_alloc (Nat.le_refl _) _, rfl⟩
  case round =>
    obtain ⟨i, x, hi, HX, HXb, HA, kx, hb, rfl⟩ := hrel
    have lx : (digs 10000 x).length ≤ i := digs_len_le (by omega) HXb.out
    by_cases hp : i < S.size
    · have hat := hS.at_ hp
      obtain ⟨A, cp, rfl, _⟩ := id kx
      by_cases hd : dv (S[i]'hp) < 10
      · have h48 : 48 ≤ (S[i]'hp).toNat := (dig_range.1 hd).1
        have h57 : (S[i]'hp).toNat ≤ 57 := (dig_range.1 hd).2
        have hdv := dig_val hd
        have HX2 : Hid (x * 10 + dv (S[i]'hp) = numS 10 (l.take (i + 1))) := by show _ = _; rw [numS_step hat, HX.out]
        have HXb2 : Hid (x * 10 + dv (S[i]'hp) < 10000 ^ (i + 1)) := bound_step HXb.out hd (by omega)
        have HA2 : Hid (∀ c ∈ l.take (i + 1), dv c < 10) := by
          intro c hc
          rw [List.take_add_one, hat] at hc
          rcases List.mem_append.1 hc with hc | hc
          · exact HA.out c hc
          · simp at hc; rw [hc]; exact hd
        obtain ⟨y, hy⟩ : ∃ y, y = x * 10 + dv (S[i]'hp) := ⟨_, rfl⟩
        have HY := Lib.hid hy
        have HTI : Hid ((((S[i]'hp).toNat : Nat) : Int) - 48 = ((dv (S[i]'hp) : Nat) : Int)) := by show _ = _; omega
        have hdb : dv (S[i]'hp) ≤ 4294967296 := by omega
        have c1 : ¬ (((S[i]'hp).toNat : Nat) : Int) < 48 := by omega
        have c2 : ¬ (57 : Int) < (((S[i]'hp).toNat : Nat) : Int) := by omega
        have c3 : (48 : Int) ≤ (((S[i]'hp).toNat : Nat) : Int) := by omega
        have c4 : (((S[i]'hp).toNat : Nat) : Int) ≤ 57 := by omega
        rw [← hy] at HX2 HXb2
        clear hat hd hy h48 h57 hdv
        go_wp2_with fail
        refine (mulAdd_any _ x 10 _ 10 (dv (S[i]'hp)) _ rfl HTI.out kx (by omega) (by omega) hdb y HY.out).mono ?_
        rintro e w3 ⟨v3, rfl, k3, f3, b3⟩
        have hb3 := hb.trans (b3.mono hb.size)
        go_wp2
        go_roundw
        case rel => exact ⟨i + 1, y, by omega, HX2, HXb2, HA2, k3, hb3, by go_num⟩
        case measure => simp [intOf]; omega
      · have hno := not_ok hat hd
        have hbf : b = false := by
          rcases HBK.out with ⟨_, h2⟩ | ⟨h1, _⟩
          · exact absurd h2 hno
          · exact h1
        subst hbf
        by_cases h48 : (S[i]'hp).toNat < 48
        · have c1 : (((S[i]'hp).toNat : Nat) : Int) < 48 := by omega
          clear hat hd hno HBK
          go_wp2
          go_ret2
          exact ⟨_, rfl, (fun h => by cases h), hb⟩
        · have c1 : ¬ (((S[i]'hp).toNat : Nat) : Int) < 48 := by omega
          have c2 : (57 : Int) < (((S[i]'hp).toNat : Nat) : Int) := by
            have : ¬ (48 ≤ (S[i]'hp).toNat ∧ (S[i]'hp).toNat ≤ 57) := fun h => hd (dig_range.2 h)
            omega
          clear hat hd hno HBK
          go_wp2
          go_ret2
          exact ⟨_, rfl, (fun h => by cases h), hb⟩
    · have hil : l.take i = l := List.take_of_length_le (by have := HSZ.out; omega)
      have hx := HX.out
      have hA := HA.out
      rw [hil] at hx hA
      have HXX := Lib.hid hx
      obtain ⟨A, cp, rfl, _⟩ := id kx
      have hbs : b = decide (0 < S.size) := by
        rcases HBK.out with ⟨h1, h2⟩ | ⟨h1, h2⟩
        · have h3 := List.length_pos_iff.2 h2.1
          have := HSZ.out
          rw [h1]; exact (decide_eq_true (by omega)).symm
        · rw [h1]; symm; rw [decide_eq_false_iff_not]
          intro h3
          exact h2 ⟨fun e => by have h4 := HSZ.out; rw [e, List.length_nil] at h4; omega, hA⟩
      subst hbs
      clear hil hx hA HBK
      go_wp2
      go_ret2
      exact ⟨_, rfl, (fun _ => by rw [← HXX.out]; exact kx), hb⟩
set_option maxHeartbeats 1600000 in
set_option maxRecDepth 100000 in
theorem ten_any (nI : Int) (n : Nat) (w : World) (hn : nI = (n : Int)) (hl : n ≤ 4000) :
    Calls Tryz.prog 32 #[.int .i64 nI] w (RetS .i64 (digs 10000 (10 ^ n)) w) := by
  have HN := Lib.hid hn
  have hn0 : 0 ≤ nI := by omega
  have hn1 : nI ≤ 4000 := by omega
  clear hn
  go_enter Tryz.func32, Tryz.ntmps32
  go_wp2_with fail
  refine (refNum_any 1 1 _ rfl (by omega)).mono ?_
  rintro e w1 ⟨v1, rfl, k1, f1, b1⟩
  go_wp2
  go_loopw [3, 4] (fun vo vi wr => ∃ i x : Nat, i ≤ n ∧ Hid (x = 10 ^ i) ∧ IsS wr .i64 vo (digs 10000 x) ∧ Fresh w.heap.size vo ∧ Below w.heap.size w wr ∧ vi = .int .i64 (i : Int)) (fun _ vi _ => n - (intOf vi).toNat)
  case atStart => exact ⟨0, 1, by omega, rfl, k1, f1, b1, rfl⟩
  case round =>
    obtain ⟨i, x, hi, HX, kx, fx, hb, rfl⟩ := hrel
    have lx : (digs 10000 x).length ≤ i + 1 := by
      rw [HX.out]
      refine digs_len_le (by omega) ?_
      exact Nat.lt_of_lt_of_le (Nat.pow_lt_pow_right (a := 10) (by omega) (Nat.lt_succ_self i)) (Nat.pow_le_pow_left (by omega) _)
    obtain ⟨A, cp, rfl, _⟩ := id kx
    by_cases hp : i < n
    · have hpI : (i : Int) < nI := by have := HN.out; omega
      have HX2 : Hid (x * 10 + 0 = 10 ^ (i + 1)) := by show _ = _; rw [HX.out, Nat.pow_succ]; omega
      obtain ⟨y, hy⟩ : ∃ y, y = x * 10 + 0 := ⟨_, rfl⟩
      have HY := Lib.hid hy
      rw [← hy] at HX2
      clear hy
      go_wp2_with fail
      refine (mulAdd_any _ x 10 0 10 0 _ rfl rfl kx (by omega) (by omega) (by omega) y HY.out).mono ?_
      rintro e w3 ⟨v3, rfl, k3, f3, b3⟩
      have hb3 := hb.trans (b3.mono hb.size)
      go_wp2
      go_roundw
      case rel => exact ⟨i + 1, y, by omega, HX2, k3, f3.mono hb.size, hb3, by go_num⟩
      case measure => simp [intOf]; omega
    · have hpI : ¬ (i : Int) < nI := by have := HN.out; omega
      have HXX : Hid (x = 10 ^ n) := by show _ = _; rw [HX.out, show i = n by omega]
      go_wp2
      go_ret
      exact ⟨_, rfl, by rw [← HXX.out]; exact kx, fx, hb⟩
end Go.Proofs.YtpcllhdfalebbaaGreatDoor.rto
namespace Go.Proofs.YtpcllhdfalebbaaGreatDoor.flow
open Go.RowKit Go.Proofs.YtpcllhdfalebbaaGreatDoor.num Go.Proofs.YtpcllhdfalebbaaGreatDoor.mem
set_option linter.unusedVariables false
/-- Each yields a value as told, in whatever world. -/
def Lates (P : Program) (ops : Array Oper) (L : List Oper) (Φ : List Pd) (w0 : World) (a0 : Act) : List Nat → Prop
  | [] => True
  | q :: qs => (∃ oq, L[q]? = some oq ∧ ∀ ms w1, St L Φ w0 oq ms w1 → ∃ v, Yields P ops oq v (putM a0 L ms) ∧ (ph Φ q).p w1 v) ∧ Lates P ops L Φ w0 a0 qs
section
variable {P : Program} {ops : Array Oper} {L : List Oper} {Φ : List Pd} {w0 : World} {a0 : Act} {o : Oper} {G : Pd}
end
end Go.Proofs.YtpcllhdfalebbaaGreatDoor.flow
namespace Go.Proofs.YtpcllhdfalebbaaGreatDoor.flow
open Go.RowKit Go.Proofs.YtpcllhdfalebbaaGreatDoor.num Go.Proofs.YtpcllhdfalebbaaGreatDoor.mem
set_option linter.unusedVariables false
theorem Lates.at_ {P : Program} {ops : Array Oper} {L : List Oper} {Φ : List Pd} {w0 : World} {a0 : Act} : ∀ (pre : List Nat) (q : Nat) (rest : List Nat), Lates P ops L Φ w0 a0 (pre ++ q :: rest) → ∃ oq, L[q]? = some oq ∧ ∀ ms w1, St L Φ w0 oq ms w1 → ∃ v, Yields P ops oq v (putM a0 L ms) ∧ (ph Φ q).p w1 v
  | [], q, rest, h => h.1
  | a :: pre, q, rest, h => Lates.at_ pre q rest h.2
section
variable {P : Program} {Q : Exit → Act → World → Prop} {ops : Array Oper} {o : Oper}
/-- One cell of a variable is written. -/
theorem wp_store_at {a : Act} {w : World} {K : Act → World → Prop} {ty : TypeId} {x y : Operand} {g p : Nat} {v : Value} {cs : Array Value} {e : TypeId} (hd : o.dst = none) (hop : o.op = .store ty x y)
    (hx : a.eval x = .pointer (some ⟨g, p, none⟩)) (hy : a.eval y = v) (hv : v.cells = #[v]) (h1 : v.oneCell' = true) (hB : w.heap[g]? = some (.cells cs e (0, 0))) (hp : p < cs.size) (hi : (P.info? ty).map (·.size) = some 1)
    (h : ∀ w', w.grownBy w' (some g) → w'.heap[g]? = some (.cells (cs.setIfInBounds p v) e (0, 0)) → K a w') : o.wp P a w K Q := by
  have hc : (w.cell? ⟨g, p, none⟩).isSome = true := by
    rw [cell_of_row w g p cs e (0, 0) hB, Array.getElem?_eq_getElem hp]; rfl
  have hf : w.frozen? ⟨g, p, none⟩ = false := by simp [World.frozen?, hB]
  have hrun := run_storeCells_cells (P := P) g p [v] 0 w (fun j hj => by obtain rfl : j = 0 := (by simpa using hj); simpa using hc) (fun j hj => by obtain rfl : j = 0 := (by simpa using hj); simpa using hf) (fun u hu => by obtain rfl := List.mem_singleton.1 hu; exact h1)
  simp only [Nat.add_zero] at hrun
  have hst : (storeVar ty ⟨g, p, none⟩ v).run P w = .ok () (w.setCells g p [v]) := by
    cases hq : P.info? ty with
    | none => simp [hq] at hi
    | some inf =>
      have hsz : 1 = inf.size := by simp [hq] at hi; omega
      simp [storeVar, sizeOf, typeInfo, hq, hv, ← hsz, hrun]
  have hset : w.setCells g p [v] = w.setCell ⟨g, p, none⟩ v := rfl
  rw [hset] at hst
  unfold Oper.wp execOp
  simp only [hop, hx, hy, Instr.storeAt, Instr.sureAddr, Sem.run_bind, Sem.run_pure, Result.andThen_ok, hst, Oper.upon_skip, hd]
  refine h _ ⟨rfl, rfl, rfl, by simp [World.setCell], fun k _ hk => Below.heap_setCell w ⟨g, p, none⟩ v k (fun e => hk (by rw [e]))⟩ ?_
  simp [World.setCell, Array.getElem?_modify, hB]
theorem ob_field {L : List Oper} {Φ : List Pd} {w0 : World} {a0 : Act} {i : Nat} {t : TypeId} {x : Operand} {k : Nat} {F : World → Value → Prop} (hop : o.op = .field t x k) (hw : Wt ops L Φ w0 a0 o true) (hx : Ev L Φ w0 a0 o x F) (hr : ∀ w u, F w u → ∃ v, (Instr.field t u k).run P w = .ok v w ∧ (ph Φ i).p w v) : Ob P Q ops L Φ w0 a0 i o :=
  ob_val hw (by unfold isA; rw [hop]) fun ms w hS => by
    obtain ⟨v, h1, h2⟩ := hr w _ (hx ms w hS)
    exact ⟨v, by unfold execOp; simp only [hop, Sem.run_bind, h1]; rfl, h2⟩
end
end Go.Proofs.YtpcllhdfalebbaaGreatDoor.flow
namespace Go.Proofs.YtpcllhdfalebbaaGreatDoor.rat
open Go.RowKit Go.Proofs.YtpcllhdfalebbaaGreatDoor.num Go.Proofs.YtpcllhdfalebbaaGreatDoor.mem Go.Proofs.YtpcllhdfalebbaaGreatDoor.nat Go.Proofs.YtpcllhdfalebbaaGreatDoor.flow
set_option linter.unusedVariables false
theorem IsS.cut {w : World} {k : IntKind} {A : Option Addr} {c : Nat} {l : List Nat} (h : IsS w k (.slice A l.length c) l) (m : Nat) : IsS w k (.slice A (min l.length m) c) (l.take m) := by
  obtain ⟨A', c', e, h1, h2, h3⟩ := h
  injection e with e1 e2 e3
  subst e1; subst e3
  refine ⟨A, c, by rw [List.length_take, Nat.min_comm], by rw [List.length_take]; omega, h2, fun i d hd => ?_⟩
  rw [List.getElem?_take] at hd
  split at hd
  · exact h3 i d hd
  · cases hd
end Go.Proofs.YtpcllhdfalebbaaGreatDoor.rat
namespace Go.Proofs.YtpcllhdfalebbaaGreatDoor.rat
open Go.RowKit Go.Proofs.YtpcllhdfalebbaaGreatDoor.num Go.Proofs.YtpcllhdfalebbaaGreatDoor.mem Go.Proofs.YtpcllhdfalebbaaGreatDoor.nat Go.Proofs.YtpcllhdfalebbaaGreatDoor.txt Go.Proofs.YtpcllhdfalebbaaGreatDoor.str Go.Proofs.YtpcllhdfalebbaaGreatDoor.flow Go.Proofs.YtpcllhdfalebbaaGreatDoor.whl
set_option linter.unusedVariables false
theorem mk_num_eq (z : Int) {d : Nat} (hd : d ≠ 0) : (mkRat z d).num = z / ((z.natAbs.gcd d : Nat) : Int) := by
  rw [Rat.num_mkRat, if_neg hd, Nat.gcd_comm]
/-- The upper part, and what it divides. -/
theorem mk_upper (z : Int) {d : Nat} (hd : d ≠ 0) : z = (mkRat z d).num * ((z.natAbs.gcd d : Nat) : Int) := by
  rw [mk_num_eq z hd, Int.ediv_mul_cancel (Int.ofNat_dvd_left.2 (Nat.gcd_dvd_left _ _))]
theorem mk_lower (z : Int) {d : Nat} (hd : d ≠ 0) : d = (mkRat z d).den * (z.natAbs.gcd d) := by
  rw [mk_den z hd, Nat.div_mul_cancel (Nat.gcd_dvd_right _ _)]
/-- A fraction by its own parts, which nothing divides. -/
theorem parts_of {q : Rat} {n : Int} {d : Nat} (hd : d ≠ 0) (h : q = mkRat n d) (hc : Nat.gcd n.natAbs d = 1) : q.num = n ∧ q.den = d := by
  subst h
  constructor
  · rw [mk_num_eq n hd, hc]; exact Int.ediv_one n
  · rw [mk_den n hd, hc, Nat.div_one]
theorem mul_parts (x y : Rat) : (x * y).num = (mkRat x.num y.den).num * (mkRat y.num x.den).num ∧ (x * y).den = (mkRat y.num x.den).den * (mkRat x.num y.den).den := by
  have e1 := mk_upper x.num y.den_nz
  have e2 := mk_lower x.num y.den_nz
  have e3 := mk_upper y.num x.den_nz
  have e4 := mk_lower y.num x.den_nz
  have r1 := (mkRat x.num y.den).reduced
  have r2 := (mkRat y.num x.den).reduced
  have n1 := (mkRat x.num y.den).den_nz
  have n2 := (mkRat y.num x.den).den_nz
  have x1 := x.reduced
  have y1 := y.reduced
  refine parts_of (Nat.mul_ne_zero n2 n1) ?_ ?_
  · rw [Nat.mul_comm, ← Rat.mkRat_mul_mkRat, Rat.mkRat_self, Rat.mkRat_self, Rat.mkRat_mul_mkRat, Nat.mul_comm y.den, Rat.mul_def']
  · have d1 : (mkRat x.num y.den).num.natAbs ∣ x.num.natAbs := Int.natAbs_dvd_natAbs.2 ⟨_, e1⟩
    have d2 : (mkRat y.num x.den).den ∣ x.den := ⟨_, e4⟩
    have d3 : (mkRat y.num x.den).num.natAbs ∣ y.num.natAbs := Int.natAbs_dvd_natAbs.2 ⟨_, e3⟩
    have d4 : (mkRat x.num y.den).den ∣ y.den := ⟨_, e2⟩
    rw [Int.natAbs_mul]
    have c1 : Nat.Coprime (mkRat x.num y.den).num.natAbs (mkRat y.num x.den).den := Nat.Coprime.coprime_dvd_left d1 (Nat.Coprime.coprime_dvd_right d2 x1)
    have c2 : Nat.Coprime (mkRat y.num x.den).num.natAbs (mkRat x.num y.den).den := Nat.Coprime.coprime_dvd_left d3 (Nat.Coprime.coprime_dvd_right d4 y1)
    exact (Nat.Coprime.mul_right c1 r1).mul_left (Nat.Coprime.mul_right r2 c2)
theorem neg_make (n : Int) (d : Nat) (hd : d ≠ 0) : mkRat (-n) d = -mkRat n d := Rat.neg_mkRat n d |>.symm
theorem eq_parts {x y : Rat} : x = y ↔ x.num = y.num ∧ x.den = y.den := ⟨fun h => by rw [h]; exact ⟨rfl, rfl⟩, fun h => Rat.ext h.1 h.2⟩
end Go.Proofs.YtpcllhdfalebbaaGreatDoor.rat
namespace Go.Proofs.YtpcllhdfalebbaaGreatDoor.rat
open Go.RowKit Go.Proofs.YtpcllhdfalebbaaGreatDoor.num Go.Proofs.YtpcllhdfalebbaaGreatDoor.mem Go.Proofs.YtpcllhdfalebbaaGreatDoor.nat Go.Proofs.YtpcllhdfalebbaaGreatDoor.txt Go.Proofs.YtpcllhdfalebbaaGreatDoor.str Go.Proofs.YtpcllhdfalebbaaGreatDoor.flow Go.Proofs.YtpcllhdfalebbaaGreatDoor.whl
set_option linter.unusedVariables false
/-- A whole number, and a number, both in new memory. -/
def RetZS (z : Int) (d : Nat) (w : World) (e : Ending) (w' : World) : Prop := ∃ v u, e = .returned (.tuple #[v, u]) ∧ IsZ w' v z ∧ IsS w' .u64 u (digs 4294967296 d) ∧ FreshZ w.heap.size v ∧ Fresh w.heap.size u ∧ Below w.heap.size w w'
def pzs (z : Int) (d : Nat) (B : Nat) : Pd := ⟨fun w t => ∃ v u, t = .tuple #[v, u] ∧ IsZ w v z ∧ IsS w .u64 u (digs 4294967296 d) ∧ FreshZ B v ∧ Fresh B u, fun h hb => by obtain ⟨v, u, e, h1, h2, h3, h4⟩ := h; exact ⟨v, u, e, h1.below hb, h2.below hb, h3, h4⟩⟩
theorem RetZS.pd {z : Int} {d : Nat} {w : World} {e : Ending} {w' : World} {B : Nat} (h : RetZS z d w e w') (hB : B ≤ w.heap.size) : RetPd (pzs z d B) w e w' := by
  obtain ⟨v, u, h1, h2, h3, h4, h5, h6⟩ := h
  exact ⟨_, h1, ⟨v, u, rfl, h2, h3, h4.mono hB, h5.mono hB⟩, h6⟩
/-- A fraction in new memory, and an error's number. -/
def RetQF (q : Rat) (n : Int) (w : World) (e : Ending) (w' : World) : Prop := ∃ v, e = .returned (.tuple #[v, .int .i64 n]) ∧ IsQ w' v q ∧ FreshQ w.heap.size v ∧ Below w.heap.size w w'
def pqf (q : Rat) (n : Int) (B : Nat) : Pd := ⟨fun w t => ∃ v, t = .tuple #[v, .int .i64 n] ∧ IsQ w v q ∧ FreshQ B v, fun h hb => by obtain ⟨v, e, h1, h2⟩ := h; exact ⟨v, e, h1.below hb, h2⟩⟩
theorem RetQF.pd {q : Rat} {n : Int} {w : World} {e : Ending} {w' : World} {B : Nat} (h : RetQF q n w e w') (hB : B ≤ w.heap.size) : RetPd (pqf q n B) w e w' := by
  obtain ⟨v, h1, h2, h3, h4⟩ := h
  exact ⟨_, h1, ⟨v, rfl, h2, h3.mono hB⟩, h4⟩
theorem RetQF.e {q : Rat} {n : Int} {w : World} {e : Ending} {w' : World} (h : RetQF q n w e w') : RetQE q n w e w' := by
  obtain ⟨v, h1, h2, _, h4⟩ := h
  exact ⟨v, h1, h2, h4⟩
theorem RetZ.to {x y : Int} {w : World} {e : Ending} {w' : World} (h : RetZ x w e w') (k : x = y) : RetZ y w e w' := k ▸ h
theorem RetS.to {l m : List Nat} {w : World} {e : Ending} {w' : World} (h : RetS .u64 l w e w') (k : l = m) : RetS .u64 m w e w' := k ▸ h
theorem RetQ.to {x y : Rat} {w : World} {e : Ending} {w' : World} (h : RetQ x w e w') (k : x = y) : RetQ y w e w' := k ▸ h
set_option maxHeartbeats 1600000 in
set_option maxRecDepth 100000 in
theorem unsigned_any (a0 : Value) (x : Nat) (w : World) (h0 : IsS w .u64 a0 (digs 4294967296 x)) :
    Calls Tryz.prog 95 #[a0] w (RetV (.agg #[.bool false, a0]) w) := by
  have s0 := h0
  obtain ⟨A0, c0, rfl, _⟩ := id s0
  go_enter Tryz.func95, Tryz.ntmps95
  go_upto_region 1 with (fail)
  obtain ⟨wx, hwx, bb, BR0, hsz⟩ := vars1 w 25 #[.bool false, .slice none 0 0]
  rw [hwx]
  clear hwx
  have k0 := s0.below bb
  have hsz0 := bb.size
  have sB := bb.size
  refine flowp 2 [Pd.eq (.slice A0 (digs 4294967296 x).length c0), Pd.eq (.agg #[.bool false, .slice A0 (digs 4294967296 x).length c0])] (by kernel_rfl) ?ob1 ?done1
  case ob1 =>
    refine And.intro (ob_move rfl (wt_none rfl) (ev_far rfl rfl) (fun _ _ h => h)) ?_
    refine And.intro (ob_build1b rfl (wt_none rfl) (ev_dep (j := 0) (by kernel_rfl) rfl rfl) (fun w2 u hb hu => by obtain rfl := hu; exact ⟨.agg #[.bool false, .slice A0 (digs 4294967296 x).length c0], by kernel_rfl, rfl⟩)) ?_
    trivial
  case done1 =>
    refine fun w1 hb1 v0 h0 v1 h1 b hbf => ?_
    obtain rfl := h0; obtain rfl := h1
    simp only [Act.put, List.setIfInBounds_toArray, List.set_cons_zero, List.set_cons_succ] at hbf
    subst hbf
    replace BR0 := BR0.below hb1
    replace k0 := k0.below hb1
    replace bb := bb.trans (hb1.mono bb.size)
    have hsz1 := bb.size
    refine ops_store (i := 2) rfl rfl rfl rfl rfl rfl (cells := [.bool false, .slice A0 (digs 4294967296 x).length c0]) rfl BR0 rfl (by kernel_rfl) (one2 rfl rfl) fun w9 hg9 B9 => ?_
    have bb9 := bb.trans ((Below.refl _ _).grown hg9 bb.size (fun g hg => by injection hg with hg; omega))
    obtain ⟨C0, C1, _, _⟩ := Blk.two B9
    refine ops_done ?_
    go_wp2
    exact bodyPost_ret (v := .agg #[.bool false, .slice A0 (digs 4294967296 x).length c0]) (by simp [results, Tryz.results95, go_sem, C0, C1]) rfl ⟨rfl, bb9⟩
theorem unsigned_pd (a0 : Value) (x : Nat) (w : World) (h0 : IsS w .u64 a0 (digs 4294967296 x)) : Calls Tryz.prog 95 #[a0] w (RetPd (pi ((x : Nat) : Int)) w) :=
  (unsigned_any a0 x w h0).mono fun e w' h => ⟨_, h.1, isZ_mk (h0.below h.2) (Int.natAbs_natCast _) (ngB_of_pos (by omega)).symm, h.2⟩
set_option maxHeartbeats 1600000 in
set_option maxRecDepth 100000 in
theorem times_any (a0 : Value) (x : Nat) (a1 : Value) (y : Nat) (w : World) (h0 : IsS w .u64 a0 (digs 4294967296 x)) (h1 : IsS w .u64 a1 (digs 4294967296 y)) (hl : (digs 4294967296 x).length ≤ 100000) (hl2 : (digs 4294967296 y).length ≤ 100000) :
    Calls Tryz.prog 86 #[a0, a1] w (RetS .u64 (digs 4294967296 (x * y)) w) := by
  have s0 := h0
  obtain ⟨A0, c0, rfl, _⟩ := id s0
  have s1 := h1
  obtain ⟨A1, c1, rfl, _⟩ := id s1
  have bb : Below w.heap.size w w := Below.refl _ _
  have HM : Hid (((x * y : Nat) : Int) = ((x : Nat) : Int) * ((y : Nat) : Int)) := Int.natCast_mul x y
  have HL1 : Hid (lenZ ((x : Nat) : Int) ≤ 100000) := by show _ ≤ _; rw [lenD]; omega
  have HL2 : Hid (lenZ ((y : Nat) : Int) ≤ 100000) := by show _ ≤ _; rw [lenD]; omega
  go_enter Tryz.func86, Tryz.ntmps86
  go_upto_region 1 with (fail)
  have k0 := s0.below bb
  have k1 := s1.below bb
  have hsz0 := bb.size
  have sB := bb.size
  refine flowp 7 [Pd.eq (.slice A0 (digs 4294967296 x).length c0), pi (((x : Nat) : Int)), Pd.eq (.slice A1 (digs 4294967296 y).length c1), pi (((y : Nat) : Int)), pz (((x * y : Nat) : Int)) w.heap.size, ps .u64 (digs 4294967296 (x * y)) w.heap.size, ps .u64 (digs 4294967296 (x * y)) w.heap.size] (by kernel_rfl) ?ob2 ?done2
  case ob2 =>
    refine And.intro (ob_move rfl (wt_none rfl) (ev_far rfl rfl) (fun _ _ h => h)) ?_
    refine And.intro (ob_call1 rfl Tryz.func95 (by kernel_rfl) (wt_none rfl) (ev_dep (j := 0) (by kernel_rfl) rfl rfl) (fun w2 u0 hb h0 => by obtain rfl := h0; exact unsigned_pd _ (x) _ (k0.below hb))) ?_
    refine And.intro (ob_move rfl (wt_none rfl) (ev_far rfl rfl) (fun _ _ h => h)) ?_
    refine And.intro (ob_call1 rfl Tryz.func95 (by kernel_rfl) (wt_none rfl) (ev_dep (j := 2) (by kernel_rfl) rfl rfl) (fun w2 u0 hb h0 => by obtain rfl := h0; exact unsigned_pd _ (y) _ (k1.below hb))) ?_
    refine And.intro (ob_call2 rfl Tryz.func85 (by kernel_rfl) (wt_none rfl) (ev_dep (j := 1) (by kernel_rfl) rfl rfl) (ev_dep (j := 3) (by kernel_rfl) rfl rfl) (fun w2 u0 u1 hb h0 h1 => by exact (zmul_any _ _ _ _ _ _ h0 h1 HL1.out HL2.out HM.out).mono fun e w3 h => RetZ.pd h hb.size)) ?_
    refine And.intro (ob_field rfl (wt_none rfl) (ev_dep (j := 4) (by kernel_rfl) rfl rfl) (fun w2 u hu => by obtain ⟨⟨u', rfl, q'⟩, f'⟩ := hu; exact ⟨u', by kernel_rfl, q', f' _ _ rfl⟩)) ?_
    refine And.intro (ob_assign rfl (wt_none rfl) (ev_dep (j := 5) (by kernel_rfl) rfl rfl) (fun _ _ h => h)) ?_
    trivial
  case done2 =>
    refine fun w1 hb1 v0 h0 v1 h1 v2 h2 v3 h3 v4 h4 v5 h5 v6 h6 b hbf => ?_
    obtain rfl := h0; obtain rfl := h2
    have q1 := h1
    have q3 := h3
    obtain ⟨q4, f4⟩ := h4
    obtain ⟨q5, f5⟩ := h5
    obtain ⟨q6, f6⟩ := h6
    simp only [Act.put, List.setIfInBounds_toArray, List.set_cons_zero, List.set_cons_succ] at hbf
    subst hbf
    replace k0 := k0.below hb1
    replace k1 := k1.below hb1
    replace bb := bb.trans (hb1.mono bb.size)
    have hsz1 := bb.size
    have s_4 := sB
    have s_5 := sB
    have s_6 := sB
    refine ops_done ?_
    go_wp2
    go_ret
    exact ⟨_, rfl, q6, f6.mono s_6, bb⟩
set_option maxHeartbeats 1600000 in
set_option maxRecDepth 100000 in
theorem reduced_any (a0 : Value) (z : Int) (a1 : Value) (d : Nat) (U : Int) (L : Nat) (w : World) (h0 : IsZ w a0 z) (h1 : IsS w .u64 a1 (digs 4294967296 d)) (hd : d ≠ 0) (hl : lenZ z ≤ 20000) (hl2 : (digs 4294967296 d).length ≤ 20000) (hU : U = (mkRat z d).num) (hL : L = (mkRat z d).den) :
    Calls Tryz.prog 68 #[a0, a1] w (RetZS U L w) := by
  obtain ⟨u0, rfl, s0⟩ := h0
  obtain ⟨A0, c0, rfl, _⟩ := id s0
  have s1 := h1
  obtain ⟨A1, c1, rfl, _⟩ := id s1
  obtain ⟨G, hG⟩ : ∃ G, G = Nat.gcd z.natAbs d := ⟨_, rfl⟩
  have hGp : 0 < G := by rw [hG]; exact Nat.gcd_pos_of_pos_right _ (by omega)
  have hGd : G ≤ d := by rw [hG]; exact Nat.le_of_dvd (by omega) (Nat.gcd_dvd_right _ _)
  have HL1 : Hid ((digs 4294967296 z.natAbs).length ≤ 90000) := Nat.le_trans hl (by decide)
  have HL2 : Hid ((digs 4294967296 d).length ≤ 90000) := Nat.le_trans hl2 (by decide)
  have HL3 : Hid (lenZ ((G : Nat) : Int) ≤ 20000) := by show _ ≤ _; rw [lenD]; exact Nat.le_trans (digs_len_mono (by omega) hGd) hl2
  have HL4 : Hid ((digs 4294967296 G).length ≤ 90000) := Nat.le_trans (digs_len_mono (by omega) hGd) HL2.out
  have HG : Hid (gcds [z.natAbs, d] = G) := by show _ = _; rw [hG]; simp [gcds]
  have HU : Hid (z = U * ((G : Nat) : Int)) := by show _ = _; rw [hU, hG]; exact mk_upper z hd
  have HM : Hid (d % G = 0) := by show _ = _; rw [hG]; exact Nat.mod_eq_zero_of_dvd (Nat.gcd_dvd_right _ _)
  have HQ : Hid (L = d / G) := by show _ = _; rw [hL, hG]; exact mk_den z hd
  have HN : Hid (((G : Nat) : Int) ≠ 0) := by show _ ≠ _; omega
  clear hG hU hL hGd
  go_enter Tryz.func68, Tryz.ntmps68
  go_upto_region 1 with (fail)
  obtain ⟨wx, hwx, bb, B0, BR0, hsz⟩ := vars2 w 25 25 #[.bool (ngB z), .slice A0 (digs 4294967296 (z).natAbs).length c0] #[.bool false, .slice none 0 0]
  rw [hwx]
  clear hwx
  have k0s := s0.below bb
  have k0 : IsZ wx (.agg #[.bool (ngB z), .slice A0 (digs 4294967296 (z).natAbs).length c0]) (z) := isZ_mk k0s rfl rfl
  have k1 := s1.below bb
  have hsz0 := bb.size
  obtain ⟨x00, x01, _, _⟩ := Blk.two B0
  go_wp2_with fail
  have hbA := below_alloc (Nat.le_refl wx.heap.size) (.cells #[.slice A0 (digs 4294967296 (z).natAbs).length c0, .slice A1 (digs 4294967296 d).length c1] 23)
  refine (ggcd_any _ [_, _] [z.natAbs, d] _ (isV_lit wx 23 [_, _]) (nums2 (k0s.below hbA) (k1.below hbA)) (by simp) (by intro q hq; simp at hq; rcases hq with rfl | rfl; exact HL1.out; exact HL2.out)).mono ?_
  rintro e w1 ⟨v1, rfl, kg, kgf, b1⟩
  have hb1 := hbA.trans (b1.mono hbA.size)
  rw [HG.out] at kg
  clear x00 x01
  replace B0 := B0.below hb1
  replace k0s := k0s.below hb1
  replace k0 := k0.below hb1
  replace BR0 := BR0.below hb1
  replace k1 := k1.below hb1
  replace bb := bb.trans (hb1.mono bb.size)
  have hsz1 := bb.size
  obtain ⟨Akg, ckg, rfl, _⟩ := id kg
  have sB := bb.size
  go_upto_region 2 with (fail)
  have lt1_2 := Blk.lt B0
  have lt1_4 := Blk.lt BR0
  refine flowl 8 [Pd.eq (.agg #[.bool (ngB z), .slice A0 (digs 4294967296 (z).natAbs).length c0]), Pd.eq (.slice Akg (digs 4294967296 G).length ckg), pi (((G : Nat) : Int)), pze (U) 0 w1.heap.size, pze (U) 0 w1.heap.size, pz (U) w1.heap.size, Pd.eq (.int .i64 0), pn 25 #[.bool false, .slice none 0 0] w1.heap.size] (by kernel_rfl) 6 rfl (by kernel_rfl) (fun _ _ _ _ h => h) (late_extract rfl rfl (ev_dep (j := 4) (by kernel_rfl) rfl rfl) (fun w2 u hu => by obtain ⟨v, rfl, q1, q2⟩ := hu; exact ⟨_, fun _ => rfl, rfl⟩)) ?ob3 ?done3
  case ob3 =>
    refine And.intro (ob_load rfl (wt_none rfl) (ev_far rfl rfl) (fun w2 hb => run_loadAll Tryz.underlying25 rfl (by kernel_rfl) (B0.drew.below hb)) (fun _ _ => rfl)) ?_
    refine And.intro (ob_move rfl (wt_none rfl) (ev_far rfl rfl) (fun _ _ h => h)) ?_
    refine And.intro (ob_call1 rfl Tryz.func95 (by kernel_rfl) (wt_none rfl) (ev_dep (j := 1) (by kernel_rfl) rfl rfl) (fun w2 u0 hb h0 => by obtain rfl := h0; exact unsigned_pd _ (G) _ (kg.drew.below hb))) ?_
    refine And.intro (ob_call2 rfl Tryz.func94 (by kernel_rfl) (wt_none rfl) (ev_dep (j := 0) (by kernel_rfl) rfl rfl) (ev_dep (j := 2) (by kernel_rfl) rfl rfl) (fun w2 u0 u1 hb h0 h1 => by obtain rfl := h0; exact (zexact_ok _ z _ _ U _ (k0.drew.below hb) h1 hl HL3.out HN.out HU.out).mono fun e w3 h => RetZE.pd h hb.size)) ?_
    refine And.intro (ob_move rfl (wt_none rfl) (ev_dep (j := 3) (by kernel_rfl) rfl rfl) (fun _ _ h => h)) ?_
    refine And.intro (ob_extract rfl (wt_none rfl) (ev_dep (j := 4) (by kernel_rfl) rfl rfl) (fun w2 u hu => by obtain ⟨v, rfl, q1, q2⟩ := hu; exact ⟨v, rfl, q1, q2⟩)) ?_
    refine And.intro (ob_extract rfl (wt_none rfl) (ev_dep (j := 4) (by kernel_rfl) rfl rfl) (fun w2 u hu => by obtain ⟨v, rfl, q1, q2⟩ := hu; exact ⟨_, rfl, rfl⟩)) ?_
    refine And.intro (ob_alloc (z := .agg #[.bool false, .slice none 0 0]) rfl rfl (fun _ => by kernel_rfl) (fun _ _ hB h => ⟨_, rfl, hB, h⟩)) ?_
    trivial
  case done3 =>
    refine fun w2 hb2 v0 h0 v1 h1 v2 h2 v3 h3 v4 h4 v5 h5 v6 h6 v7 h7 d7 b hbf => ?_
    obtain rfl := h0; obtain rfl := h1; obtain rfl := h6
    have q2 := h2
    clear h3
    clear h4
    obtain ⟨q5, f5⟩ := h5
    obtain ⟨g3_7, rfl, hg7, B7⟩ := h7
    simp only [Act.put, List.setIfInBounds_toArray, List.set_cons_zero, List.set_cons_succ] at hbf
    subst hbf
    replace B0 := B0.below hb2
    replace k0s := k0s.below hb2
    replace k0 := k0.below hb2
    replace BR0 := BR0.below hb2
    replace k1 := k1.below hb2
    replace kg := kg.below hb2
    replace bb := bb.trans (hb2.mono bb.size)
    have hsz2 := bb.size
    have s_5 := sB
    have BA7 := B7
    obtain ⟨u5, rfl, q5⟩ := q5
    obtain ⟨A7, c7, rfl, _⟩ := id q5
    refine any_store (i := 8) (by kernel_rfl) rfl rfl rfl rfl rfl rfl (cells := [.bool (ngB U), .slice A7 (digs 4294967296 (U).natAbs).length c7]) rfl BA7 rfl (by kernel_rfl) (one2 rfl rfl) fun w3 hg3 BN3 => ?_
    replace q5 := off q5 BA7 no_ints2 hg3
    replace k1 := off k1 BA7 no_ints2 hg3
    replace kg := off kg BA7 no_ints2 hg3
    replace k0s := off k0s BA7 no_ints2 hg3
    replace k0 : IsZ w3 (.agg #[.bool (ngB z), .slice A0 (digs 4294967296 (z).natAbs).length c0]) (z) := ⟨_, rfl, k0s⟩
    replace B0 := B0.grown hg3 (by omega)
    replace BR0 := BR0.grown hg3 (by omega)
    replace bb := bb.trans ((Below.refl _ _).grown hg3 bb.size (fun g hg => by injection hg with hg; omega))
    have hsz3 := bb.size
    have B7 : Blk w3 (g3_7) _ _ := BN3
    have k7s := q5
    have k7 : IsZ w3 (.agg #[.bool (ngB U), .slice A7 (digs 4294967296 (U).natAbs).length c7]) (U) := ⟨_, rfl, k7s⟩
    refine any_assign (i := 9) (.int .i64 0) (by kernel_rfl) rfl rfl rfl rfl rfl fun b hbf => ?_
    simp only [Act.put, List.setIfInBounds_toArray, List.set_cons_zero, List.set_cons_succ] at hbf
    subst hbf
    refine any_done (by kernel_rfl) ?_
    have f7_ := (f5 _ _ rfl).mono s_5
    have sB := bb.size
    go_upto_region 3 with (fail)
    refine flowp 8 [Pd.eq (.slice A1 (digs 4294967296 d).length c1), Pd.eq (.slice Akg (digs 4294967296 G).length ckg), pt .u64 (digs 4294967296 L) 0 w3.heap.size, pt .u64 (digs 4294967296 L) 0 w3.heap.size, ps .u64 (digs 4294967296 L) w3.heap.size, Pd.eq (.int .i64 0), ps .u64 (digs 4294967296 L) w3.heap.size, Pd.eq (.int .i64 0)] (by kernel_rfl) ?ob4 ?done4
    case ob4 =>
      refine And.intro (ob_move rfl (wt_none rfl) (ev_far rfl rfl) (fun _ _ h => h)) ?_
      refine And.intro (ob_move rfl (wt_none rfl) (ev_far rfl rfl) (fun _ _ h => h)) ?_
      refine And.intro (ob_call2 rfl Tryz.func96 (by kernel_rfl) (wt_none rfl) (ev_dep (j := 0) (by kernel_rfl) rfl rfl) (ev_dep (j := 1) (by kernel_rfl) rfl rfl) (fun w2 u0 u1 hb h0 h1 => by obtain rfl := h0; obtain rfl := h1; exact (dexact_ok _ _ d G _ (k1.below hb) (kg.below hb) HL2.out HL4.out hGp L HM.out HQ.out).mono fun e w3 h => RetSI.pd h hb.size)) ?_
      refine And.intro (ob_move rfl (wt_none rfl) (ev_dep (j := 2) (by kernel_rfl) rfl rfl) (fun _ _ h => h)) ?_
      refine And.intro (ob_extract rfl (wt_none rfl) (ev_dep (j := 3) (by kernel_rfl) rfl rfl) (fun w2 u hu => by obtain ⟨v, rfl, q1, q2⟩ := hu; exact ⟨v, rfl, q1, q2⟩)) ?_
      refine And.intro (ob_extract rfl (wt_none rfl) (ev_dep (j := 3) (by kernel_rfl) rfl rfl) (fun w2 u hu => by obtain ⟨v, rfl, q1, q2⟩ := hu; exact ⟨_, rfl, rfl⟩)) ?_
      refine And.intro (ob_assign rfl (wt_none rfl) (ev_dep (j := 4) (by kernel_rfl) rfl rfl) (fun _ _ h => h)) ?_
      refine And.intro (ob_assign rfl (wt_none rfl) (ev_dep (j := 5) (by kernel_rfl) rfl rfl) (fun _ _ h => h)) ?_
      trivial
    case done4 =>
      refine fun w4 hb4 v0 h0 v1 h1 v2 h2 v3 h3 v4 h4 v5 h5 v6 h6 v7 h7 b hbf => ?_
      obtain rfl := h0; obtain rfl := h1; obtain rfl := h5; obtain rfl := h7
      clear h2
      clear h3
      obtain ⟨q4, f4⟩ := h4
      obtain ⟨q6, f6⟩ := h6
      simp only [Act.put, List.setIfInBounds_toArray, List.set_cons_zero, List.set_cons_succ] at hbf
      subst hbf
      replace B0 := B0.below hb4
      replace k0s := k0s.below hb4
      replace k0 := k0.below hb4
      replace BR0 := BR0.below hb4
      replace B7 := B7.below hb4
      replace k7s := k7s.below hb4
      replace k7 := k7.below hb4
      replace k1 := k1.below hb4
      replace kg := kg.below hb4
      replace bb := bb.trans (hb4.mono bb.size)
      have hsz4 := bb.size
      have s_4 := sB
      have s_6 := sB
      refine ops_done ?_
      obtain ⟨A9, c9, rfl, _⟩ := id q6
      have n9 := q6
      have n9f := f6
      have n9z_ := s_6
      have sB := bb.size
      go_upto_region 4 with (fail)
      refine flowp 2 [Pd.eq (.agg #[.bool (ngB U), .slice A7 (digs 4294967296 (U).natAbs).length c7]), Pd.eq (.slice A9 (digs 4294967296 L).length c9)] (by kernel_rfl) ?ob5 ?done5
      case ob5 =>
        refine And.intro (ob_load rfl (wt_none rfl) (ev_far rfl rfl) (fun w2 hb => run_loadAll Tryz.underlying25 rfl (by kernel_rfl) (B7.below hb)) (fun _ _ => rfl)) ?_
        refine And.intro (ob_move rfl (wt_none rfl) (ev_far rfl rfl) (fun _ _ h => h)) ?_
        trivial
      case done5 =>
        refine fun w5 hb5 v0 h0 v1 h1 b hbf => ?_
        obtain rfl := h0; obtain rfl := h1
        simp only [Act.put, List.setIfInBounds_toArray, List.set_cons_zero, List.set_cons_succ] at hbf
        subst hbf
        replace B0 := B0.below hb5
        replace k0s := k0s.below hb5
        replace k0 := k0.below hb5
        replace BR0 := BR0.below hb5
        replace B7 := B7.below hb5
        replace k7s := k7s.below hb5
        replace k7 := k7.below hb5
        replace k1 := k1.below hb5
        replace kg := kg.below hb5
        replace n9 := n9.below hb5
        replace bb := bb.trans (hb5.mono bb.size)
        have hsz5 := bb.size
        refine ops_store (i := 2) rfl rfl rfl rfl rfl rfl (cells := [.bool (ngB U), .slice A7 (digs 4294967296 (U).natAbs).length c7]) rfl BR0 rfl (by kernel_rfl) (one2 rfl rfl) fun wx9 hg9 BX9 => ?_
        have m9 := off k7s BR0 no_ints2 hg9
        have l9 := off n9 BR0 no_ints2 hg9
        have bb9 := bb.trans ((Below.refl _ _).grown hg9 bb.size (fun g hg => by injection hg with hg; omega))
        obtain ⟨C0, C1, _, _⟩ := Blk.two BX9
        refine ops_assign (i := 3) (.slice A9 (digs 4294967296 L).length c9) rfl rfl rfl rfl rfl fun b hbf => ?_
        simp only [Act.put, List.setIfInBounds_toArray, List.set_cons_zero, List.set_cons_succ] at hbf
        subst hbf
        refine ops_done ?_
        go_wp2
        exact bodyPost_ret (v := .tuple #[.agg #[.bool (ngB U), .slice A7 (digs 4294967296 (U).natAbs).length c7], .slice A9 (digs 4294967296 L).length c9]) (by simp [results, Tryz.results68, go_sem, C0, C1]) rfl ⟨_, _, rfl, isZ_mk m9 rfl rfl, l9, freshZ_mk f7_, n9f.mono n9z_, bb9⟩
set_option maxHeartbeats 1600000 in
set_option maxRecDepth 100000 in
theorem fsign0_any (a0 : Value) (x : Rat) (t : Int) (w : World) (h0 : IsQ w a0 x) (ht : t = ordz x.num 0) :
    Calls Tryz.prog 47 #[a0] w (RetV (.int .i64 t) w) := by
  obtain ⟨u0, t0, rfl, s0, r0⟩ := h0
  obtain ⟨A0, c0, rfl, _⟩ := id s0
  obtain ⟨D0, e0, rfl, _⟩ := id r0
  have HT := Lib.hid ht
  clear ht
  go_enter Tryz.func47, Tryz.ntmps47
  go_upto_region 1 with (fail)
  obtain ⟨wx, hwx, bb, B0, hsz⟩ := vars1 w 27 #[.bool (ngB (x).num), .slice A0 (digs 4294967296 (x).num.natAbs).length c0, .slice D0 (digs 4294967296 (x).den).length e0]
  rw [hwx]
  clear hwx
  have k0s := s0.below bb
  have k0d := r0.below bb
  have k0z : IsZ wx (.agg #[.bool (ngB (x).num), .slice A0 (digs 4294967296 (x).num.natAbs).length c0]) (x).num := ⟨_, rfl, k0s⟩
  have k0 : IsQ wx (.agg #[.bool (ngB (x).num), .slice A0 (digs 4294967296 (x).num.natAbs).length c0, .slice D0 (digs 4294967296 (x).den).length e0]) (x) := ⟨_, _, rfl, k0s, k0d⟩
  have hsz0 := bb.size
  have sB := bb.size
  refine flowp 4 [Pd.eq (.pointer (some ⟨w.heap.size, 0, none⟩)), Pd.eq (.agg #[.bool (ngB (x).num), .slice A0 (digs 4294967296 (x).num.natAbs).length c0]), Pd.eq (.int .i64 t), Pd.eq (.int .i64 t)] (by kernel_rfl) ?ob7 ?done7
  case ob7 =>
    refine And.intro (ob_fieldAddr rfl (wt_none rfl) (ev_far rfl rfl) (fun _ => by kernel_rfl) (fun _ => rfl)) ?_
    refine And.intro (ob_load rfl (wt_none rfl) (ev_dep (j := 0) (by kernel_rfl) rfl rfl) (fun w2 hb => run_loadPart Tryz.underlying25 rfl (by kernel_rfl) (B0.below hb) rfl) (fun _ _ => rfl)) ?_
    refine And.intro (ob_call1 rfl Tryz.func67 (by kernel_rfl) (wt_none rfl) (ev_dep (j := 1) (by kernel_rfl) rfl rfl) (fun w2 u0 hb h0 => by obtain rfl := h0; exact (sign_any _ x.num t _ (k0z.below hb) HT.out).mono fun e w3 h => RetV.pd h)) ?_
    refine And.intro (ob_assign rfl (wt_none rfl) (ev_dep (j := 2) (by kernel_rfl) rfl rfl) (fun _ _ h => h)) ?_
    trivial
  case done7 =>
    refine fun w1 hb1 v0 h0 v1 h1 v2 h2 v3 h3 b hbf => ?_
    obtain rfl := h0; obtain rfl := h1; obtain rfl := h2; obtain rfl := h3
    simp only [Act.put, List.setIfInBounds_toArray, List.set_cons_zero, List.set_cons_succ] at hbf
    subst hbf
    replace B0 := B0.below hb1
    replace k0s := k0s.below hb1
    replace k0d := k0d.below hb1
    replace k0z := k0z.below hb1
    replace k0 := k0.below hb1
    replace bb := bb.trans (hb1.mono bb.size)
    have hsz1 := bb.size
    refine ops_done ?_
    go_wp2
    go_ret
    exact ⟨rfl, bb⟩
end Go.Proofs.YtpcllhdfalebbaaGreatDoor.rat
namespace Go.Proofs.YtpcllhdfalebbaaGreatDoor.flow
open Go.RowKit Go.Proofs.YtpcllhdfalebbaaGreatDoor.num Go.Proofs.YtpcllhdfalebbaaGreatDoor.mem Go.Proofs.YtpcllhdfalebbaaGreatDoor.txt Go.Proofs.YtpcllhdfalebbaaGreatDoor.str
set_option linter.unusedVariables false
section
variable {P : Program} {Q : Exit → Act → World → Prop} {ops : Array Oper} {L : List Oper} {Φ : List Pd} {w0 : World} {a0 : Act} {i : Nat} {o : Oper}
theorem ob_slice_from {t : TypeId} {x y : Operand} {F G : World → Value → Prop} (hop : o.op = .slice t x (some y) none none) (hw : Wt ops L Φ w0 a0 o true) (hx : Ev L Φ w0 a0 o x F) (hy : Ev L Φ w0 a0 o y G)
    (hr : ∀ w u v, F w u → G w v → ∃ r, (Instr.sliceAt t u (some v) none none).run P w = .ok r w ∧ (ph Φ i).p w r) : Ob P Q ops L Φ w0 a0 i o :=
  ob_val hw (by unfold isA; rw [hop]) fun ms w hS => by
    obtain ⟨v, h1, h2⟩ := hr w _ _ (hx ms w hS) (hy ms w hS)
    exact ⟨v, by unfold execOp; simp only [hop, Sem.run_bind, Option.map_none, Option.map_some, h1]; rfl, h2⟩
theorem bytes_append (l m : List UInt8) : (⟨l.toArray⟩ : ByteArray) ++ ⟨m.toArray⟩ = ⟨(l ++ m).toArray⟩ := by
  show ByteArray.append _ _ = _
  simp [ByteArray.append]
theorem bytes_size (l : List UInt8) : (⟨l.toArray⟩ : ByteArray).size = l.length := (StrIs.mk l).size
theorem bin_add_str {t : TypeId} (x y : Operand) (l m : List UInt8) (h : l.length + m.length ≤ 9223372036854775807) (w : World) : (do eqGuard .add t x y (.string ⟨l.toArray⟩) (.string ⟨m.toArray⟩); binOp .add t (.string ⟨l.toArray⟩) (.string ⟨m.toArray⟩)).run P w = .ok (.string ⟨(l ++ m).toArray⟩) w := by
  have h0 : (eqGuard .add t x y (.string ⟨l.toArray⟩) (.string ⟨m.toArray⟩)).run P w = .ok () w := by simp [eqGuard]
  have h1 := bytes_size l
  have h2 := bytes_size m
  rw [Sem.run_bind, h0, Result.andThen_ok]
  simp [binOp, Op.stringOp, go_sem, bytes_append]
  omega
theorem bin_sub_nat {t : TypeId} (x y : Operand) (a b : Nat) (hb : b ≤ a) (ha : a ≤ 9223372036854775807) (w : World) : (do eqGuard .sub t x y (.int .i64 (a : Int)) (.int .i64 (b : Int)); binOp .sub t (.int .i64 (a : Int)) (.int .i64 (b : Int))).run P w = .ok (.int .i64 ((a - b : Nat) : Int)) w := by
  have h0 : (eqGuard .sub t x y (.int .i64 (a : Int)) (.int .i64 (b : Int))).run P w = .ok () w := by simp [eqGuard]
  have e : IntKind.i64.wrap ((a : Int) - (b : Int)) = ((a - b : Nat) : Int) := by rw [IntKind.wrap_i64]; omega
  rw [Sem.run_bind, h0, Result.andThen_ok]
  simp [binOp, Op.intArith, go_sem, e]
theorem len_txt {t ty : TypeId} (hu : P.underlying t = some .string) (l : List UInt8) (w : World) : (Builtin.len_ #[t] ty #[.string ⟨l.toArray⟩]).run P w = .ok (.int .i64 (l.length : Int)) w := by
  rw [len_string hu, bytes_size]
theorem to_txt {t : TypeId} (hu : P.underlying t = some .string) (l : List UInt8) (n : Nat) (hn : n ≤ l.length) (w : World) : (Instr.sliceAt t (.string ⟨l.toArray⟩) none (some (.int .i64 (n : Int))) none).run P w = .ok (.string ⟨(l.take n).toArray⟩) w := by
  rw [slice_to hu _ n (by rw [bytes_size]; exact hn), ((StrIs.mk l).to_ n).is]
theorem from_txt {t : TypeId} (hu : P.underlying t = some .string) (l : List UInt8) (n : Nat) (hn : n ≤ l.length) (w : World) : (Instr.sliceAt t (.string ⟨l.toArray⟩) (some (.int .i64 (n : Int))) none none).run P w = .ok (.string ⟨(l.drop n).toArray⟩) w := by
  rw [slice_from hu _ n (by rw [bytes_size]; exact hn), ((StrIs.mk l).from_ n).is]
end
end Go.Proofs.YtpcllhdfalebbaaGreatDoor.flow
namespace Go.Proofs.YtpcllhdfalebbaaGreatDoor.rto
open Go.RowKit Go.Proofs.YtpcllhdfalebbaaGreatDoor.num Go.Proofs.YtpcllhdfalebbaaGreatDoor.mem Go.Proofs.YtpcllhdfalebbaaGreatDoor.nat Go.Proofs.YtpcllhdfalebbaaGreatDoor.txt Go.Proofs.YtpcllhdfalebbaaGreatDoor.str Go.Proofs.YtpcllhdfalebbaaGreatDoor.flow Go.Proofs.YtpcllhdfalebbaaGreatDoor.whl Go.Proofs.YtpcllhdfalebbaaGreatDoor.rat
set_option linter.unusedVariables false
theorem txtr_one {q : Rat} (h : q.den = 1) : txtr q = txtz q.num := if_pos h
theorem txtr_two {q : Rat} (h : ¬ q.den = 1) : txtr q = txtz q.num ++ [47] ++ txt 10 q.den := by unfold txtr; rw [if_neg h, List.append_assoc]; rfl
theorem txtz_len (z : Int) : (txtz z).length ≤ 10 * lenZ z + 2 := by
  have := txt10_len z.natAbs
  unfold txtz lenZ
  split
  · simp; omega
  · omega
set_option maxHeartbeats 1600000 in
set_option maxRecDepth 100000 in
theorem rprint9_any (a0 : Value) (q : Rat) (w : World) (h0 : IsP w a0 q) (hl : lenQ q 100) :
    Calls Tryz.prog 19 #[a0] w (RetStrB (txtr q) w) := by
  by_cases hd : q.den = 1
  · obtain ⟨u0, t0, rfl, s0, r0⟩ := h0
    obtain ⟨A0, c0, rfl, _⟩ := id s0
    obtain ⟨D0, e0, rfl, _⟩ := id r0
    have HT : Hid (0 = ord q.den 1) := (ord_zero.2 hd).symm
    have HX := Lib.hid (txtr_one hd)
    clear hd
    go_enter Tryz.func19, Tryz.ntmps19
    go_upto_region 1 with (fail)
    obtain ⟨wx, hwx, bb, B0, hsz⟩ := vars1 w 36 #[.bool (ngB (q).num), .slice A0 (digs 10000 (q).num.natAbs).length c0, .slice D0 (digs 10000 (q).den).length e0]
    rw [hwx]
    clear hwx
    have k0s := s0.below bb
    have k0d := r0.below bb
    have k0z : IsR wx (.agg #[.bool (ngB (q).num), .slice A0 (digs 10000 (q).num.natAbs).length c0]) (q).num := ⟨_, rfl, k0s⟩
    have k0 : IsP wx (.agg #[.bool (ngB (q).num), .slice A0 (digs 10000 (q).num.natAbs).length c0, .slice D0 (digs 10000 (q).den).length e0]) (q) := ⟨_, _, rfl, k0s, k0d⟩
    have hsz0 := bb.size
    have sB := bb.size
    refine flow 5 [Pd.eq (.pointer (some ⟨w.heap.size, 2, none⟩)), Pd.eq (.slice D0 (digs 10000 (q).den).length e0), ps .i64 (digs 10000 1) wx.heap.size, Pd.eq (.int .i64 0), Pd.eq (.bool true)] (by kernel_rfl) (by kernel_rfl) ?ob1 ?done1
    case ob1 =>
      refine And.intro (ob_fieldAddr rfl (wt_none rfl) (ev_far rfl rfl) (fun _ => by kernel_rfl) (fun _ => rfl)) ?_
      refine And.intro (ob_load rfl (wt_none rfl) (ev_dep (j := 0) (by kernel_rfl) rfl rfl) (fun w2 hb => run_load1 Tryz.underlying32 rfl ((B0.drew.below hb).cell 2)) (fun _ _ => rfl)) ?_
      refine And.intro (ob_call1 rfl Tryz.func28 (by kernel_rfl) (wt_none rfl) (ev_const _) (fun w2 u0 hb h0 => by obtain rfl := h0; exact (refNum_any 1 1 _ rfl (by omega)).mono fun e w3 h => RetS.pd h hb.size)) ?_
      refine And.intro (ob_call2 rfl Tryz.func55 (by kernel_rfl) (wt_none rfl) (ev_dep (j := 1) (by kernel_rfl) rfl rfl) (ev_dep (j := 2) (by kernel_rfl) rfl rfl) (fun w2 u0 u1 hb h0 h1 => by obtain rfl := h0; exact (refCmp_at _ _ q.den 1 0 _ (k0d.drew.below hb) h1.1 HT.out).mono fun e w3 h => RetV.pd h)) ?_
      refine And.intro (ob_bin rfl (wt_none rfl) (ev_dep (j := 3) (by kernel_rfl) rfl rfl) (ev_const _) (fun _ _ _ hx hy => ⟨.bool ((0 : Int) == 0), by rw [hx, hy]; exact bin_eql_int _ _ _ _ _, congrArg Value.bool (by decide)⟩)) ?_
      trivial
    case done1 =>
      refine fun w1 hb1 v0 h0 v1 h1 v2 h2 v3 h3 v4 h4 b hbf => ?_
      obtain rfl := h0; obtain rfl := h1; obtain rfl := h3; obtain rfl := h4
      obtain ⟨q2, f2⟩ := h2
      simp only [Act.put, List.setIfInBounds_toArray, List.set_cons_zero, List.set_cons_succ] at hbf
      subst hbf
      replace B0 := B0.below hb1
      replace k0s := k0s.below hb1
      replace k0d := k0d.below hb1
      replace k0z := k0z.below hb1
      replace k0 := k0.below hb1
      replace bb := bb.trans (hb1.mono bb.size)
      have hsz1 := bb.size
      have s_2 := sB
      refine any_done (by kernel_rfl) ?_
      have sB := bb.size
      go_upto_region 2 with (fail)
      refine flowp 4 [Pd.eq (.pointer (some ⟨w.heap.size, 0, none⟩)), Pd.eq (.agg #[.bool (ngB (q).num), .slice A0 (digs 10000 (q).num.natAbs).length c0]), Pd.eq (.string (ByteArray.mk (List.toArray (txtz (q).num : List UInt8)))), Pd.eq (.string (ByteArray.mk (List.toArray (txtz (q).num : List UInt8))))] (by kernel_rfl) ?ob2 ?done2
      case ob2 =>
        refine And.intro (ob_fieldAddr rfl (wt_none rfl) (ev_far rfl rfl) (fun _ => by kernel_rfl) (fun _ => rfl)) ?_
        refine And.intro (ob_load rfl (wt_none rfl) (ev_dep (j := 0) (by kernel_rfl) rfl rfl) (fun w2 hb => run_loadPart Tryz.underlying34 rfl (by kernel_rfl) (B0.below hb) rfl) (fun _ _ => rfl)) ?_
        refine And.intro (ob_call1 rfl Tryz.func56 (by kernel_rfl) (wt_none rfl) (ev_dep (j := 1) (by kernel_rfl) rfl rfl) (fun w2 u0 hb h0 => by obtain rfl := h0; exact (rprint_any _ q.num _ (k0z.below hb) (Nat.le_trans (lenZ_dec _) (by have := hl.1; omega))).mono fun e w3 h => RetStrB.pd h)) ?_
        refine And.intro (ob_assign rfl (wt_none rfl) (ev_dep (j := 2) (by kernel_rfl) rfl rfl) (fun _ _ h => h)) ?_
        trivial
      case done2 =>
        refine fun w2 hb2 v0 h0 v1 h1 v2 h2 v3 h3 b hbf => ?_
        obtain rfl := h0; obtain rfl := h1; obtain rfl := h2; obtain rfl := h3
        simp only [Act.put, List.setIfInBounds_toArray, List.set_cons_zero, List.set_cons_succ] at hbf
        subst hbf
        replace B0 := B0.below hb2
        replace k0s := k0s.below hb2
        replace k0d := k0d.below hb2
        replace k0z := k0z.below hb2
        replace k0 := k0.below hb2
        replace bb := bb.trans (hb2.mono bb.size)
        have hsz2 := bb.size
        refine ops_done ?_
        go_wp2
        go_ret
        rw [HX.out]
        exact ⟨_, rfl, StrIs.mk _, bb⟩
  · obtain ⟨u0, t0, rfl, s0, r0⟩ := h0
    obtain ⟨A0, c0, rfl, _⟩ := id s0
    obtain ⟨D0, e0, rfl, _⟩ := id r0
    obtain ⟨t, ht⟩ : ∃ t, t = ord q.den 1 := ⟨_, rfl⟩
    have HT := Lib.hid ht
    have HTZ : Hid ((t == 0) = false) := by show _ = _; rw [ht, beq_eq_false_iff_ne]; exact fun e => hd (ord_zero.1 e)
    have HX := Lib.hid (txtr_two hd)
    have HL1 : (txtz q.num).length ≤ 10002 := Nat.le_trans (txtz_len _) (by have := hl.1; omega)
    have HL2 : (txt 10 q.den).length ≤ 10002 := Nat.le_trans (txt10_len _) (by have := hl.2; omega)
    clear hd ht
    go_enter Tryz.func19, Tryz.ntmps19
    go_upto_region 1 with (fail)
    obtain ⟨wx, hwx, bb, B0, hsz⟩ := vars1 w 36 #[.bool (ngB (q).num), .slice A0 (digs 10000 (q).num.natAbs).length c0, .slice D0 (digs 10000 (q).den).length e0]
    rw [hwx]
    clear hwx
    have k0s := s0.below bb
    have k0d := r0.below bb
    have k0z : IsR wx (.agg #[.bool (ngB (q).num), .slice A0 (digs 10000 (q).num.natAbs).length c0]) (q).num := ⟨_, rfl, k0s⟩
    have k0 : IsP wx (.agg #[.bool (ngB (q).num), .slice A0 (digs 10000 (q).num.natAbs).length c0, .slice D0 (digs 10000 (q).den).length e0]) (q) := ⟨_, _, rfl, k0s, k0d⟩
    have hsz0 := bb.size
    have sB := bb.size
    refine flow 5 [Pd.eq (.pointer (some ⟨w.heap.size, 2, none⟩)), Pd.eq (.slice D0 (digs 10000 (q).den).length e0), ps .i64 (digs 10000 1) wx.heap.size, Pd.eq (.int .i64 t), Pd.eq (.bool false)] (by kernel_rfl) (by kernel_rfl) ?ob3 ?done3
    case ob3 =>
      refine And.intro (ob_fieldAddr rfl (wt_none rfl) (ev_far rfl rfl) (fun _ => by kernel_rfl) (fun _ => rfl)) ?_
      refine And.intro (ob_load rfl (wt_none rfl) (ev_dep (j := 0) (by kernel_rfl) rfl rfl) (fun w2 hb => run_load1 Tryz.underlying32 rfl ((B0.drew.below hb).cell 2)) (fun _ _ => rfl)) ?_
      refine And.intro (ob_call1 rfl Tryz.func28 (by kernel_rfl) (wt_none rfl) (ev_const _) (fun w2 u0 hb h0 => by obtain rfl := h0; exact (refNum_any 1 1 _ rfl (by omega)).mono fun e w3 h => RetS.pd h hb.size)) ?_
      refine And.intro (ob_call2 rfl Tryz.func55 (by kernel_rfl) (wt_none rfl) (ev_dep (j := 1) (by kernel_rfl) rfl rfl) (ev_dep (j := 2) (by kernel_rfl) rfl rfl) (fun w2 u0 u1 hb h0 h1 => by obtain rfl := h0; exact (refCmp_at _ _ q.den 1 t _ (k0d.drew.below hb) h1.1 HT.out).mono fun e w3 h => RetV.pd h)) ?_
      refine And.intro (ob_bin rfl (wt_none rfl) (ev_dep (j := 3) (by kernel_rfl) rfl rfl) (ev_const _) (fun _ _ _ hx hy => ⟨.bool false, by rw [hx, hy, bin_eql_int, HTZ.out], rfl⟩)) ?_
      trivial
    case done3 =>
      refine fun w1 hb1 v0 h0 v1 h1 v2 h2 v3 h3 v4 h4 b hbf => ?_
      obtain rfl := h0; obtain rfl := h1; obtain rfl := h3; obtain rfl := h4
      obtain ⟨q2, f2⟩ := h2
      simp only [Act.put, List.setIfInBounds_toArray, List.set_cons_zero, List.set_cons_succ] at hbf
      subst hbf
      replace B0 := B0.below hb1
      replace k0s := k0s.below hb1
      replace k0d := k0d.below hb1
      replace k0z := k0z.below hb1
      replace k0 := k0.below hb1
      replace bb := bb.trans (hb1.mono bb.size)
      have hsz1 := bb.size
      have s_2 := sB
      refine any_done (by kernel_rfl) ?_
      have sB := bb.size
      go_upto_region 3 with (fail)
      refine flow 9 [Pd.eq (.pointer (some ⟨w.heap.size, 0, none⟩)), Pd.eq (.agg #[.bool (ngB (q).num), .slice A0 (digs 10000 (q).num.natAbs).length c0]), Pd.eq (.string (ByteArray.mk (List.toArray (txtz (q).num : List UInt8)))), Pd.eq (.string (ByteArray.mk (List.toArray ((txtz (q).num) ++ ([47]) : List UInt8)))), Pd.eq (.pointer (some ⟨w.heap.size, 2, none⟩)), Pd.eq (.slice D0 (digs 10000 (q).den).length e0), Pd.eq (.string (ByteArray.mk (List.toArray (txt 10 (q).den : List UInt8)))), Pd.eq (.string (ByteArray.mk (List.toArray (((txtz (q).num) ++ ([47])) ++ (txt 10 (q).den) : List UInt8)))), Pd.eq (.string (ByteArray.mk (List.toArray (((txtz (q).num) ++ ([47])) ++ (txt 10 (q).den) : List UInt8))))] (by kernel_rfl) (by kernel_rfl) ?ob4 ?done4
      case ob4 =>
        refine And.intro (ob_fieldAddr rfl (wt_none rfl) (ev_far rfl rfl) (fun _ => by kernel_rfl) (fun _ => rfl)) ?_
        refine And.intro (ob_load rfl (wt_none rfl) (ev_dep (j := 0) (by kernel_rfl) rfl rfl) (fun w2 hb => run_loadPart Tryz.underlying34 rfl (by kernel_rfl) (B0.drew.below hb) rfl) (fun _ _ => rfl)) ?_
        refine And.intro (ob_call1 rfl Tryz.func56 (by kernel_rfl) (wt_none rfl) (ev_dep (j := 1) (by kernel_rfl) rfl rfl) (fun w2 u0 hb h0 => by obtain rfl := h0; exact (rprint_any _ q.num _ (k0z.drew.below hb) (Nat.le_trans (lenZ_dec _) (by have := hl.1; omega))).mono fun e w3 h => RetStrB.pd h)) ?_
        refine And.intro (ob_bin rfl (wt_none rfl) (ev_dep (j := 2) (by kernel_rfl) rfl rfl) (ev_const _) (fun _ _ _ hx hy => ⟨.string (ByteArray.mk (List.toArray ((txtz (q).num) ++ ([47]) : List UInt8))), by rw [hx, hy]; exact bin_add_str _ _ (txtz (q).num) ([47]) (by first | omega | (simp; omega)) _, rfl⟩)) ?_
        refine And.intro (ob_fieldAddr rfl (wt_none rfl) (ev_far rfl rfl) (fun _ => by kernel_rfl) (fun _ => rfl)) ?_
        refine And.intro (ob_load rfl (wt_none rfl) (ev_dep (j := 4) (by kernel_rfl) rfl rfl) (fun w2 hb => run_load1 Tryz.underlying32 rfl ((B0.drew.below hb).cell 2)) (fun _ _ => rfl)) ?_
        refine And.intro (ob_call1 rfl Tryz.func21 (by kernel_rfl) (wt_none rfl) (ev_dep (j := 5) (by kernel_rfl) rfl rfl) (fun w2 u0 hb h0 => by obtain rfl := h0; exact (rtext_any _ q.den _ (k0d.drew.below hb) (Nat.le_trans (dec_le _) (by have := hl.2; omega))).mono fun e w3 h => RetStrB.pd h)) ?_
        refine And.intro (ob_bin rfl (wt_none rfl) (ev_dep (j := 3) (by kernel_rfl) rfl rfl) (ev_dep (j := 6) (by kernel_rfl) rfl rfl) (fun _ _ _ hx hy => ⟨.string (ByteArray.mk (List.toArray (((txtz (q).num) ++ ([47])) ++ (txt 10 (q).den) : List UInt8))), by rw [hx, hy]; exact bin_add_str _ _ ((txtz (q).num) ++ ([47])) (txt 10 (q).den) (by first | omega | (simp; omega)) _, rfl⟩)) ?_
        refine And.intro (ob_assign rfl (wt_none rfl) (ev_dep (j := 7) (by kernel_rfl) rfl rfl) (fun _ _ h => h)) ?_
        trivial
      case done4 =>
        refine fun w2 hb2 v0 h0 v1 h1 v2 h2 v3 h3 v4 h4 v5 h5 v6 h6 v7 h7 v8 h8 b hbf => ?_
        obtain rfl := h0; obtain rfl := h1; obtain rfl := h2; obtain rfl := h3; obtain rfl := h4; obtain rfl := h5; obtain rfl := h6; obtain rfl := h7; obtain rfl := h8
        simp only [Act.put, List.setIfInBounds_toArray, List.set_cons_zero, List.set_cons_succ] at hbf
        subst hbf
        replace B0 := B0.below hb2
        replace k0s := k0s.below hb2
        replace k0d := k0d.below hb2
        replace k0z := k0z.below hb2
        replace k0 := k0.below hb2
        replace bb := bb.trans (hb2.mono bb.size)
        have hsz2 := bb.size
        refine any_done (by kernel_rfl) ?_
        go_wp2
        go_ret
        rw [HX.out]
        exact ⟨_, rfl, StrIs.mk _, bb⟩
end Go.Proofs.YtpcllhdfalebbaaGreatDoor.rto
namespace Go.Proofs.YtpcllhdfalebbaaGreatDoor.rto
open Go.RowKit Go.Proofs.YtpcllhdfalebbaaGreatDoor.num Go.Proofs.YtpcllhdfalebbaaGreatDoor.mem Go.Proofs.YtpcllhdfalebbaaGreatDoor.nat Go.Proofs.YtpcllhdfalebbaaGreatDoor.txt Go.Proofs.YtpcllhdfalebbaaGreatDoor.str Go.Proofs.YtpcllhdfalebbaaGreatDoor.flow Go.Proofs.YtpcllhdfalebbaaGreatDoor.whl Go.Proofs.YtpcllhdfalebbaaGreatDoor.rat
set_option linter.unusedVariables false
/-- A text, and a truth. -/
def RetSB (l : List UInt8) (b : Bool) (w : World) (e : Ending) (w' : World) : Prop := ∃ R, e = .returned (.tuple #[.string R, .bool b]) ∧ StrIs R l ∧ Below w.heap.size w w'
def strLen : Value → Nat
  | .string S => S.size
  | _ => 0
theorem ten_len (i : Nat) : (digs 4294967296 (10 ^ i)).length ≤ i + 1 :=
  digs_len_le (by omega) (Nat.lt_of_lt_of_le (Nat.pow_lt_pow_right (a := 10) (by omega) (Nat.lt_succ_self i)) (Nat.pow_le_pow_left (by omega) _))
theorem nbits_len {x m : Nat} (h : (digs 4294967296 x).length ≤ m) : nbits x ≤ 32 * m := by
  refine nbits_le_of (Nat.lt_of_lt_of_le (digs_lt_pow (B := 4294967296) (by omega) x) ?_)
  rw [pow32]
  exact Nat.pow_le_pow_right (by omega) (by omega)
theorem concat_one (c : UInt8) (R : ByteArray) (l : List UInt8) (h : StrIs R l) : StrIs (⟨#[c]⟩ ++ R) (c :: l) := by
  subst h
  show (ByteArray.append ⟨#[c]⟩ R).data.toList = _
  simp [ByteArray.append]
theorem concat_size (c : UInt8) (R : ByteArray) : ((⟨#[c]⟩ : ByteArray) ++ R).size = 1 + R.size := by
  have h := (concat_one c R _ rfl).size
  rw [h, List.length_cons, ← (show R.size = R.data.toList.length from (StrIs.size (S := R) rfl))]
  omega
theorem padz_is {n k : Nat} {s : List UInt8} (h1 : k = 0 ∨ k + s.length ≤ n + 1) (h2 : n < k + s.length) : List.replicate k 48 ++ s = padz n s := by
  unfold padz
  rw [show n + 1 - s.length = k by omega]
theorem decP_zero (x : Nat) : decP x 0 = padz 0 (txt 10 x) := by
  unfold decP; rw [if_pos rfl, padz_zero (txt_ne (by omega) x)]
theorem decP_more {x n : Nat} (h : n ≠ 0) : decP x n = (padz n (txt 10 x)).take ((padz n (txt 10 x)).length - n) ++ 46 :: (padz n (txt 10 x)).drop ((padz n (txt 10 x)).length - n) := if_neg h
theorem decT_neg (x n : Nat) : decT true x n = 45 :: decP x n := rfl
theorem decT_pos (x n : Nat) : decT false x n = decP x n := rfl
theorem padz_le {n : Nat} {s : List UInt8} : (padz n s).length ≤ n + 1 + s.length := by simp only [padz, List.length_append, List.length_replicate]; omega
set_option maxHeartbeats 1600000 in
set_option maxRecDepth 100000 in
theorem rdec_no (a0 : Value) (q : Rat) (w : World) (h0 : IsP w a0 q) (hl : lenQ q 10) (hm : ∀ m, ¬ q.den ∣ 10 ^ m) :
    Calls Tryz.prog 14 #[a0] w (RetSB [] false w) := by
  obtain ⟨u0, t0, rfl, s0, r0⟩ := h0
  obtain ⟨A0, c0, rfl, _⟩ := id s0
  obtain ⟨D0, e0, rfl, _⟩ := id r0
  have lq1 := hl.1
  have lq2 := hl.2
  have hnl := nbits_len lq2
  have HLD : Hid ((digs 10000 q.den).length ≤ 100000) := Nat.le_trans (dec_le _) (by omega)
  have HLB : Hid (nbits q.den ≤ 10000000) := Nat.le_trans hnl (by omega)
  have HM := Lib.hid hm
  clear hm
  go_enter Tryz.func14, Tryz.ntmps14
  go_upto_region 1 with (fail)
  obtain ⟨wx, hwx, bb, B0, hsz⟩ := vars1 w 36 #[.bool (ngB (q).num), .slice A0 (digs 10000 (q).num.natAbs).length c0, .slice D0 (digs 10000 (q).den).length e0]
  rw [hwx]
  clear hwx
  have k0s := s0.below bb
  have k0d := r0.below bb
  have k0z : IsR wx (.agg #[.bool (ngB (q).num), .slice A0 (digs 10000 (q).num.natAbs).length c0]) (q).num := ⟨_, rfl, k0s⟩
  have k0 : IsP wx (.agg #[.bool (ngB (q).num), .slice A0 (digs 10000 (q).num.natAbs).length c0, .slice D0 (digs 10000 (q).den).length e0]) (q) := ⟨_, _, rfl, k0s, k0d⟩
  have hsz0 := bb.size
  go_wp2
  go_loopw [4] (fun v4 wr => ∃ i : Nat, i ≤ nbits q.den + 1 ∧ Below wx.heap.size wx wr ∧ v4 = .int .i64 (i : Int)) (fun v4 _ => nbits q.den + 2 - (intOf v4).toNat)
  case atStart => exact ⟨0, by omega, Below.refl _ _, rfl⟩
  case round =>
    obtain ⟨i, hi, hbr, rfl⟩ := hrel
    replace B0 := B0.below hbr
    replace k0s := k0s.below hbr
    replace k0d := k0d.below hbr
    replace k0z := k0z.below hbr
    replace k0 := k0.below hbr
    replace bb := bb.trans (hbr.mono bb.size)
    obtain ⟨y0, y1, y2, _, _, _⟩ := three B0
    go_wp2_with fail
    refine (refBits_any _ q.den _ k0d HLD.out HLB.out).mono ?_
    rintro e w2 ⟨rfl, b2⟩
    clear y0 y1 y2
    replace B0 := B0.below b2
    replace k0s := k0s.below b2
    replace k0d := k0d.below b2
    replace k0z := k0z.below b2
    replace k0 := k0.below b2
    replace bb := bb.trans (b2.mono bb.size)
    have hszq := bb.size
    by_cases hlt : i ≤ nbits q.den
    · skip
      have hle : (i : Int) ≤ ((nbits q.den : Nat) : Int) := by omega
      obtain ⟨X, hX⟩ : ∃ X, X = q.num.natAbs * 10 ^ i / q.den := ⟨_, rfl⟩
      obtain ⟨Y, hY⟩ : ∃ Y, Y = q.num.natAbs * 10 ^ i % q.den := ⟨_, rfl⟩
      have HX2 := Lib.hid hX
      have HY2 := Lib.hid hY
      have lten := ten_len i
      have lmul := mul_len q.num.natAbs (10 ^ i)
      have HM1 : Hid ((digs 10000 q.num.natAbs).length ≤ 1000000) := by show _ ≤ _; have := lenZ_dec q.num; omega
      have HM2 : Hid ((digs 10000 (10 ^ i)).length ≤ 1000000) := by show _ ≤ _; have := dec_le (10 ^ i); omega
      have HM3 : Hid ((digs 10000 (q.num.natAbs * 10 ^ i)).length ≤ 100000) := by show _ ≤ _; have := dec_le (q.num.natAbs * 10 ^ i); unfold lenZ at lq1; omega
      have lX : (digs 10000 X).length ≤ 1000 := by
        refine Nat.le_trans (digs_len_mono (by omega) (y := q.num.natAbs * 10 ^ i) (by rw [hX]; exact Nat.div_le_self _ _)) ?_
        have := dec_le (q.num.natAbs * 10 ^ i); unfold lenZ at lq1; omega
      clear hX hY
      have sB := bb.size
      go_upto_region 4 with (fail)
      refine flow 14 [Pd.eq (.pointer (some ⟨w.heap.size, 0, none⟩)), Pd.eq (.pointer (some ⟨w.heap.size, 1, none⟩)), Pd.eq (.slice A0 (digs 10000 (q).num.natAbs).length c0), Pd.eq (.int .i64 (i : Int)), ps .i64 (digs 10000 (10 ^ i)) w2.heap.size, ps .i64 (digs 10000 (q.num.natAbs * 10 ^ i)) w2.heap.size, Pd.eq (.pointer (some ⟨w.heap.size, 2, none⟩)), Pd.eq (.slice D0 (digs 10000 (q).den).length e0), pt2 .i64 (digs 10000 X) (digs 10000 Y) w2.heap.size, pt2 .i64 (digs 10000 X) (digs 10000 Y) w2.heap.size, ps .i64 (digs 10000 X) w2.heap.size, ps .i64 (digs 10000 Y) w2.heap.size, ps .i64 (digs 10000 X) w2.heap.size, ps .i64 (digs 10000 Y) w2.heap.size] (by kernel_rfl) (by kernel_rfl) ?ob5 ?done5
      case ob5 =>
        refine And.intro (ob_fieldAddr rfl (wt_none rfl) (ev_far rfl rfl) (fun _ => by kernel_rfl) (fun _ => rfl)) ?_
        refine And.intro (ob_fieldAddr rfl (wt_none rfl) (ev_dep (j := 0) (by kernel_rfl) rfl rfl) (fun _ => by kernel_rfl) (fun _ => rfl)) ?_
        refine And.intro (ob_load rfl (wt_none rfl) (ev_dep (j := 1) (by kernel_rfl) rfl rfl) (fun w2 hb => run_load1 Tryz.underlying32 rfl ((B0.drew.below hb).cell 1)) (fun _ _ => rfl)) ?_
        refine And.intro (ob_move rfl (wt_none rfl) (ev_far rfl rfl) (fun _ _ h => h)) ?_
        refine And.intro (ob_call1 rfl Tryz.func32 (by kernel_rfl) (wt_none rfl) (ev_dep (j := 3) (by kernel_rfl) rfl rfl) (fun w2 u0 hb h0 => by obtain rfl := h0; exact (ten_any _ i _ rfl (by omega)).mono fun e w3 h => RetS.pd h hb.size)) ?_
        refine And.intro (ob_call2 rfl Tryz.func31 (by kernel_rfl) (wt_none rfl) (ev_dep (j := 2) (by kernel_rfl) rfl rfl) (ev_dep (j := 4) (by kernel_rfl) rfl rfl) (fun w2 u0 u1 hb h0 h1 => by obtain rfl := h0; exact (refMul_any _ _ q.num.natAbs (10 ^ i) _ (k0s.drew.below hb) h1.1 HM1.out HM2.out).mono fun e w3 h => RetS.pd h hb.size)) ?_
        refine And.intro (ob_fieldAddr rfl (wt_none rfl) (ev_far rfl rfl) (fun _ => by kernel_rfl) (fun _ => rfl)) ?_
        refine And.intro (ob_load rfl (wt_none rfl) (ev_dep (j := 6) (by kernel_rfl) rfl rfl) (fun w2 hb => run_load1 Tryz.underlying32 rfl ((B0.drew.below hb).cell 2)) (fun _ _ => rfl)) ?_
        refine And.intro (ob_call2 rfl Tryz.func49 (by kernel_rfl) (wt_none rfl) (ev_dep (j := 5) (by kernel_rfl) rfl rfl) (ev_dep (j := 7) (by kernel_rfl) rfl rfl) (fun w2 u0 u1 hb h0 h1 => by obtain rfl := h1; exact (HX2.out ▸ HY2.out ▸ refDiv_any _ _ (q.num.natAbs * 10 ^ i) q.den _ h0.1 (k0d.drew.below hb) HM3.out HLD.out q.den_pos).mono fun e w3 h => RetSS.pd h hb.size)) ?_
        refine And.intro (ob_move rfl (wt_none rfl) (ev_dep (j := 8) (by kernel_rfl) rfl rfl) (fun _ _ h => h)) ?_
        refine And.intro (ob_extract rfl (wt_none rfl) (ev_dep (j := 9) (by kernel_rfl) rfl rfl) (fun w2 u hu => by obtain ⟨v, u, rfl, q1, q2, q3, q4⟩ := hu; exact ⟨v, rfl, q1, q3⟩)) ?_
        refine And.intro (ob_extract rfl (wt_none rfl) (ev_dep (j := 9) (by kernel_rfl) rfl rfl) (fun w2 u hu => by obtain ⟨v, u, rfl, q1, q2, q3, q4⟩ := hu; exact ⟨u, rfl, q2, q4⟩)) ?_
        refine And.intro (ob_assign rfl (wt_none rfl) (ev_dep (j := 10) (by kernel_rfl) rfl rfl) (fun _ _ h => h)) ?_
        refine And.intro (ob_assign rfl (wt_none rfl) (ev_dep (j := 11) (by kernel_rfl) rfl rfl) (fun _ _ h => h)) ?_
        trivial
      case done5 =>
        refine fun w3 hb3 v0 h0 v1 h1 v2 h2 v3 h3 v4 h4 v5 h5 v6 h6 v7 h7 v8 h8 v9 h9 v10 h10 v11 h11 v12 h12 v13 h13 b hbf => ?_
        obtain rfl := h0; obtain rfl := h1; obtain rfl := h2; obtain rfl := h3; obtain rfl := h6; obtain rfl := h7
        obtain ⟨q4, f4⟩ := h4
        obtain ⟨q5, f5⟩ := h5
        clear h8
        clear h9
        obtain ⟨q10, f10⟩ := h10
        obtain ⟨q11, f11⟩ := h11
        obtain ⟨q12, f12⟩ := h12
        obtain ⟨q13, f13⟩ := h13
        simp only [Act.put, List.setIfInBounds_toArray, List.set_cons_zero, List.set_cons_succ] at hbf
        subst hbf
        replace B0 := B0.below hb3
        replace k0s := k0s.below hb3
        replace k0d := k0d.below hb3
        replace k0z := k0z.below hb3
        replace k0 := k0.below hb3
        replace bb := bb.trans (hb3.mono bb.size)
        have hsz3 := bb.size
        have s_4 := sB
        have s_5 := sB
        have s_10 := sB
        have s_11 := sB
        have s_12 := sB
        have s_13 := sB
        refine any_done (by kernel_rfl) ?_
        obtain ⟨A5, c5, rfl, _⟩ := id q12
        have k5 := q12
        have k5f := f12
        have k5z_ := s_12
        obtain ⟨A6, c6, rfl, _⟩ := id q13
        have k6 := q13
        have k6f := f13
        have k6z_ := s_13
        have hY0 : 0 < (digs 10000 Y).length := rlenp (by have := HY2.out; rw [this]; rcases Nat.eq_zero_or_pos (q.num.natAbs * 10 ^ i % q.den) with h | h; exact absurd (tells.1 h) (HM.out i); exact h)
        go_wp2
        go_roundw
        case rel => exact ⟨i + 1, by omega, hbr.trans ((b2.trans (hb3.mono b2.size)).mono hbr.size), by go_num⟩
        case measure => simp [intOf]; omega
    · have hle : ¬ (i : Int) ≤ ((nbits q.den : Nat) : Int) := by omega
      go_wp2
      go_ret2
      exact ⟨_, rfl, rfl, bb⟩
set_option maxHeartbeats 6400000 in
set_option maxRecDepth 100000 in
theorem rdec_yes (a0 : Value) (q : Rat) (n x : Nat) (w : World) (h0 : IsP w a0 q) (hl : lenQ q 10) (hd : q.den ∣ 10 ^ n) (hm : ∀ m, m < n → ¬ q.den ∣ 10 ^ m) (h2 : 2 ^ n ≤ q.den) (hx : x = q.num.natAbs * 10 ^ n / q.den) :
    Calls Tryz.prog 14 #[a0] w (RetSB (decT (ngB q.num) x n) true w) := by
  obtain ⟨u0, t0, rfl, s0, r0⟩ := h0
  obtain ⟨A0, c0, rfl, _⟩ := id s0
  obtain ⟨D0, e0, rfl, _⟩ := id r0
  have lq1 := hl.1
  have lq2 := hl.2
  have hnl := nbits_len lq2
  have HLD : Hid ((digs 10000 q.den).length ≤ 100000) := Nat.le_trans (dec_le _) (by omega)
  have HLB : Hid (nbits q.den ≤ 10000000) := Nat.le_trans hnl (by omega)
  have hnb := ten_bits h2
  have HM := Lib.hid hm
  have HD := Lib.hid hd
  have HX := Lib.hid hx
  clear hm hd hx h2
  go_enter Tryz.func14, Tryz.ntmps14
  go_upto_region 1 with (fail)
  obtain ⟨wx, hwx, bb, B0, hsz⟩ := vars1 w 36 #[.bool (ngB (q).num), .slice A0 (digs 10000 (q).num.natAbs).length c0, .slice D0 (digs 10000 (q).den).length e0]
  rw [hwx]
  clear hwx
  have k0s := s0.below bb
  have k0d := r0.below bb
  have k0z : IsR wx (.agg #[.bool (ngB (q).num), .slice A0 (digs 10000 (q).num.natAbs).length c0]) (q).num := ⟨_, rfl, k0s⟩
  have k0 : IsP wx (.agg #[.bool (ngB (q).num), .slice A0 (digs 10000 (q).num.natAbs).length c0, .slice D0 (digs 10000 (q).den).length e0]) (q) := ⟨_, _, rfl, k0s, k0d⟩
  have hsz0 := bb.size
  go_wp2
  go_loopw [4] (fun v4 wr => ∃ i : Nat, i ≤ n ∧ Below wx.heap.size wx wr ∧ v4 = .int .i64 (i : Int)) (fun v4 _ => n + 1 - (intOf v4).toNat)
  case atStart => exact ⟨0, by omega, Below.refl _ _, rfl⟩
  case round =>
    obtain ⟨i, hi, hbr, rfl⟩ := hrel
    replace B0 := B0.below hbr
    replace k0s := k0s.below hbr
    replace k0d := k0d.below hbr
    replace k0z := k0z.below hbr
    replace k0 := k0.below hbr
    replace bb := bb.trans (hbr.mono bb.size)
    obtain ⟨y0, y1, y2, _, _, _⟩ := three B0
    go_wp2_with fail
    refine (refBits_any _ q.den _ k0d HLD.out HLB.out).mono ?_
    rintro e w2 ⟨rfl, b2⟩
    clear y0 y1 y2
    replace B0 := B0.below b2
    replace k0s := k0s.below b2
    replace k0d := k0d.below b2
    replace k0z := k0z.below b2
    replace k0 := k0.below b2
    replace bb := bb.trans (b2.mono bb.size)
    have hszq := bb.size
    have hle : (i : Int) ≤ ((nbits q.den : Nat) : Int) := by omega
    obtain ⟨X, hX⟩ : ∃ X, X = q.num.natAbs * 10 ^ i / q.den := ⟨_, rfl⟩
    obtain ⟨Y, hY⟩ : ∃ Y, Y = q.num.natAbs * 10 ^ i % q.den := ⟨_, rfl⟩
    have HX2 := Lib.hid hX
    have HY2 := Lib.hid hY
    have lten := ten_len i
    have lmul := mul_len q.num.natAbs (10 ^ i)
    have HM1 : Hid ((digs 10000 q.num.natAbs).length ≤ 1000000) := by show _ ≤ _; have := lenZ_dec q.num; omega
    have HM2 : Hid ((digs 10000 (10 ^ i)).length ≤ 1000000) := by show _ ≤ _; have := dec_le (10 ^ i); omega
    have HM3 : Hid ((digs 10000 (q.num.natAbs * 10 ^ i)).length ≤ 100000) := by show _ ≤ _; have := dec_le (q.num.natAbs * 10 ^ i); unfold lenZ at lq1; omega
    have lX : (digs 10000 X).length ≤ 1000 := by
      refine Nat.le_trans (digs_len_mono (by omega) (y := q.num.natAbs * 10 ^ i) (by rw [hX]; exact Nat.div_le_self _ _)) ?_
      have := dec_le (q.num.natAbs * 10 ^ i); unfold lenZ at lq1; omega
    clear hX hY
    have sB := bb.size
    go_upto_region 4 with (fail)
    refine flow 14 [Pd.eq (.pointer (some ⟨w.heap.size, 0, none⟩)), Pd.eq (.pointer (some ⟨w.heap.size, 1, none⟩)), Pd.eq (.slice A0 (digs 10000 (q).num.natAbs).length c0), Pd.eq (.int .i64 (i : Int)), ps .i64 (digs 10000 (10 ^ i)) w2.heap.size, ps .i64 (digs 10000 (q.num.natAbs * 10 ^ i)) w2.heap.size, Pd.eq (.pointer (some ⟨w.heap.size, 2, none⟩)), Pd.eq (.slice D0 (digs 10000 (q).den).length e0), pt2 .i64 (digs 10000 X) (digs 10000 Y) w2.heap.size, pt2 .i64 (digs 10000 X) (digs 10000 Y) w2.heap.size, ps .i64 (digs 10000 X) w2.heap.size, ps .i64 (digs 10000 Y) w2.heap.size, ps .i64 (digs 10000 X) w2.heap.size, ps .i64 (digs 10000 Y) w2.heap.size] (by kernel_rfl) (by kernel_rfl) ?ob6 ?done6
    case ob6 =>
      refine And.intro (ob_fieldAddr rfl (wt_none rfl) (ev_far rfl rfl) (fun _ => by kernel_rfl) (fun _ => rfl)) ?_
      refine And.intro (ob_fieldAddr rfl (wt_none rfl) (ev_dep (j := 0) (by kernel_rfl) rfl rfl) (fun _ => by kernel_rfl) (fun _ => rfl)) ?_
      refine And.intro (ob_load rfl (wt_none rfl) (ev_dep (j := 1) (by kernel_rfl) rfl rfl) (fun w2 hb => run_load1 Tryz.underlying32 rfl ((B0.drew.below hb).cell 1)) (fun _ _ => rfl)) ?_
      refine And.intro (ob_move rfl (wt_none rfl) (ev_far rfl rfl) (fun _ _ h => h)) ?_
      refine And.intro (ob_call1 rfl Tryz.func32 (by kernel_rfl) (wt_none rfl) (ev_dep (j := 3) (by kernel_rfl) rfl rfl) (fun w2 u0 hb h0 => by obtain rfl := h0; exact (ten_any _ i _ rfl (by omega)).mono fun e w3 h => RetS.pd h hb.size)) ?_
      refine And.intro (ob_call2 rfl Tryz.func31 (by kernel_rfl) (wt_none rfl) (ev_dep (j := 2) (by kernel_rfl) rfl rfl) (ev_dep (j := 4) (by kernel_rfl) rfl rfl) (fun w2 u0 u1 hb h0 h1 => by obtain rfl := h0; exact (refMul_any _ _ q.num.natAbs (10 ^ i) _ (k0s.drew.below hb) h1.1 HM1.out HM2.out).mono fun e w3 h => RetS.pd h hb.size)) ?_
      refine And.intro (ob_fieldAddr rfl (wt_none rfl) (ev_far rfl rfl) (fun _ => by kernel_rfl) (fun _ => rfl)) ?_
      refine And.intro (ob_load rfl (wt_none rfl) (ev_dep (j := 6) (by kernel_rfl) rfl rfl) (fun w2 hb => run_load1 Tryz.underlying32 rfl ((B0.drew.below hb).cell 2)) (fun _ _ => rfl)) ?_
      refine And.intro (ob_call2 rfl Tryz.func49 (by kernel_rfl) (wt_none rfl) (ev_dep (j := 5) (by kernel_rfl) rfl rfl) (ev_dep (j := 7) (by kernel_rfl) rfl rfl) (fun w2 u0 u1 hb h0 h1 => by obtain rfl := h1; exact (HX2.out ▸ HY2.out ▸ refDiv_any _ _ (q.num.natAbs * 10 ^ i) q.den _ h0.1 (k0d.drew.below hb) HM3.out HLD.out q.den_pos).mono fun e w3 h => RetSS.pd h hb.size)) ?_
      refine And.intro (ob_move rfl (wt_none rfl) (ev_dep (j := 8) (by kernel_rfl) rfl rfl) (fun _ _ h => h)) ?_
      refine And.intro (ob_extract rfl (wt_none rfl) (ev_dep (j := 9) (by kernel_rfl) rfl rfl) (fun w2 u hu => by obtain ⟨v, u, rfl, q1, q2, q3, q4⟩ := hu; exact ⟨v, rfl, q1, q3⟩)) ?_
      refine And.intro (ob_extract rfl (wt_none rfl) (ev_dep (j := 9) (by kernel_rfl) rfl rfl) (fun w2 u hu => by obtain ⟨v, u, rfl, q1, q2, q3, q4⟩ := hu; exact ⟨u, rfl, q2, q4⟩)) ?_
      refine And.intro (ob_assign rfl (wt_none rfl) (ev_dep (j := 10) (by kernel_rfl) rfl rfl) (fun _ _ h => h)) ?_
      refine And.intro (ob_assign rfl (wt_none rfl) (ev_dep (j := 11) (by kernel_rfl) rfl rfl) (fun _ _ h => h)) ?_
      trivial
    case done6 =>
      refine fun w3 hb3 v0 h0 v1 h1 v2 h2 v3 h3 v4 h4 v5 h5 v6 h6 v7 h7 v8 h8 v9 h9 v10 h10 v11 h11 v12 h12 v13 h13 b hbf => ?_
      obtain rfl := h0; obtain rfl := h1; obtain rfl := h2; obtain rfl := h3; obtain rfl := h6; obtain rfl := h7
      obtain ⟨q4, f4⟩ := h4
      obtain ⟨q5, f5⟩ := h5
      clear h8
      clear h9
      obtain ⟨q10, f10⟩ := h10
      obtain ⟨q11, f11⟩ := h11
      obtain ⟨q12, f12⟩ := h12
      obtain ⟨q13, f13⟩ := h13
      simp only [Act.put, List.setIfInBounds_toArray, List.set_cons_zero, List.set_cons_succ] at hbf
      subst hbf
      replace B0 := B0.below hb3
      replace k0s := k0s.below hb3
      replace k0d := k0d.below hb3
      replace k0z := k0z.below hb3
      replace k0 := k0.below hb3
      replace bb := bb.trans (hb3.mono bb.size)
      have hsz3 := bb.size
      have s_4 := sB
      have s_5 := sB
      have s_10 := sB
      have s_11 := sB
      have s_12 := sB
      have s_13 := sB
      refine any_done (by kernel_rfl) ?_
      obtain ⟨A5, c5, rfl, _⟩ := id q12
      have k5 := q12
      have k5f := f12
      have k5z_ := s_12
      obtain ⟨A6, c6, rfl, _⟩ := id q13
      have k6 := q13
      have k6f := f13
      have k6z_ := s_13
      by_cases hin : i < n
      · have hY0 : 0 < (digs 10000 Y).length := rlenp (by have := HY2.out; rw [this]; rcases Nat.eq_zero_or_pos (q.num.natAbs * 10 ^ i % q.den) with h | h; exact absurd (tells.1 h) (HM.out i hin); exact h)
        go_wp2
        go_roundw
        case rel => exact ⟨i + 1, by omega, hbr.trans ((b2.trans (hb3.mono b2.size)).mono hbr.size), by go_num⟩
        case measure => simp [intOf]; omega
      · obtain rfl : i = n := by omega
        have hY00 : (digs 10000 Y).length = 0 := rlen0 (by rw [HY2.out]; exact tells.2 HD.out)
        have hY0 : ¬ 0 < (digs 10000 Y).length := by omega
        have hY1 : ¬ (0 : Int) < (((digs 10000 Y).length : Nat) : Int) := by omega
        have HY3 := Lib.hid hY00
        clear hY00
        have HXX : Hid (x = X) := by show _ = _; rw [HX.out, HX2.out]
        go_wp2_with fail
        refine (rtext_any _ X _ k5 (by omega)).mono ?_
        rintro e w4 ⟨T0, rfl, hT0, b4⟩
        replace B0 := B0.below b4
        replace k0s := k0s.below b4
        replace k0d := k0d.below b4
        replace k0z := k0z.below b4
        replace k0 := k0.below b4
        replace k5 := k5.below b4
        replace k6 := k6.below b4
        replace bb := bb.trans (b4.mono bb.size)
        have hsz3 := bb.size
        have lT := txt4_len X
        go_wp2
        go_loopw [7] (fun v7 wt => ∃ (k : Nat) (T : ByteArray), Hid (StrIs T (List.replicate k 48 ++ txt 10 X)) ∧ (k = 0 ∨ k + (txt 10 X).length ≤ i + 1) ∧ Below w4.heap.size w4 wt ∧ v7 = .string T) (fun v7 _ => i + 1 - strLen v7)
        case atStart => exact ⟨0, T0, by show StrIs _ _; rw [List.replicate_zero, List.nil_append]; exact hT0, .inl rfl, Below.refl _ _, rfl⟩
        case round =>
          obtain ⟨k, T, hT, hk, hbt, rfl⟩ := hrel
          have hTs := hT.out.size
          rw [List.length_append, List.length_replicate] at hTs
          by_cases hlt : T.size ≤ i
          · have hsz9 : ¬ 9223372036854775807 < 1 + T.size := by omega
            have HTS := Lib.hid hTs
            have hkl : k + (txt 10 X).length ≤ i := by omega
            clear hTs
            go_wp2
            go_roundw
            case rel => exact ⟨k + 1, _, by show StrIs _ _; rw [List.replicate_succ, List.cons_append]; exact concat_one 48 T _ hT.out, .inr (by omega), hbt, rfl⟩
            case measure => simp only [strLen, concat_size]; omega
          · skip
            replace B0 := B0.below hbt
            replace k0s := k0s.below hbt
            replace k0d := k0d.below hbt
            replace k0z := k0z.below hbt
            replace k0 := k0.below hbt
            replace k5 := k5.below hbt
            replace k6 := k6.below hbt
            replace bb := bb.trans (hbt.mono bb.size)
            have hsz3 := bb.size
            have hTP : T = ⟨(padz i (txt 10 X)).toArray⟩ := (padz_is hk (by omega) ▸ hT.out : StrIs T (padz i (txt 10 X))).is
            have hPl := padz_len (n := i) (s := txt 10 X)
            have hPu := padz_le (n := i) (s := txt 10 X)
            have HTT : Hid (decT (ngB q.num) x i = decT (ngB q.num) X i) := by show _ = _; rw [HXX.out]
            have hcz : (T.size ≤ i) = False := eq_false hlt
            obtain ⟨P, hP⟩ : ∃ P, P = padz i (txt 10 X) := ⟨_, rfl⟩
            rw [← hP] at hTP hPl hPu
            have HP := Lib.hid hP
            clear hP hTs hcz hT
            subst hTP
            have hbz := bytes_size P
            rw [hbz] at hlt
            have HBZ := Lib.hid hbz
            clear hbz
            by_cases hi0 : i = 0
            · have HP0 : Hid (decP X i = P) := by show _ = _; rw [hi0, decP_zero, HP.out, hi0]
              have hi1 : ¬ 0 < i := by omega
              have hi2 : ¬ (0 : Int) < (i : Int) := by omega
              clear hi0
              obtain ⟨y0, y1, y2, _, _, _⟩ := three B0
              rcases hsg : ngB q.num with _ | _
              · rw [hsg] at y0
                have HSG := Lib.hid hsg
                clear hsg
                have hsz8 : ¬ 9223372036854775807 < 1 + (ByteArray.mk (List.toArray (P : List UInt8))).size := by rw [bytes_size]; omega
                go_wp2
                go_ret2
                rw [HTT.out, HSG.out, decT_pos, HP0.out]
                exact ⟨_, rfl, StrIs.mk _, bb⟩
              · rw [hsg] at y0
                have HSG := Lib.hid hsg
                clear hsg
                have hsz8 : ¬ 9223372036854775807 < 1 + (ByteArray.mk (List.toArray (P : List UInt8))).size := by rw [bytes_size]; omega
                go_wp2
                go_ret2
                rw [HTT.out, HSG.out, decT_neg, HP0.out]
                exact ⟨_, rfl, concat_one 45 _ _ (StrIs.mk _), bb⟩
            · have HP1 : Hid (decP X i = P.take (P.length - i) ++ 46 :: P.drop (P.length - i)) := by show _ = _; rw [decP_more hi0, HP.out]
              have hi1 : 0 < i := by omega
              have hi2 : (0 : Int) < (i : Int) := by omega
              have sB := bb.size
              go_upto_region 10 with (fail)
              refine flow 14 [Pd.eq (.string (ByteArray.mk (List.toArray (P : List UInt8)))), Pd.eq (.string (ByteArray.mk (List.toArray (P : List UInt8)))), Pd.eq (.int .i64 (((P).length : Nat) : Int)), Pd.eq (.int .i64 (i : Int)), Pd.eq (.int .i64 ((((P).length - i) : Nat) : Int)), Pd.eq (.string (ByteArray.mk (List.toArray ((P).take (((P).length - i)) : List UInt8)))), Pd.eq (.string (ByteArray.mk (List.toArray (((P).take (((P).length - i))) ++ ([46]) : List UInt8)))), Pd.eq (.string (ByteArray.mk (List.toArray (P : List UInt8)))), Pd.eq (.string (ByteArray.mk (List.toArray (P : List UInt8)))), Pd.eq (.int .i64 (((P).length : Nat) : Int)), Pd.eq (.int .i64 (i : Int)), Pd.eq (.int .i64 ((((P).length - i) : Nat) : Int)), Pd.eq (.string (ByteArray.mk (List.toArray ((P).drop (((P).length - i)) : List UInt8)))), Pd.eq (.string (ByteArray.mk (List.toArray ((((P).take (((P).length - i))) ++ ([46])) ++ ((P).drop (((P).length - i))) : List UInt8))))] (by kernel_rfl) (by kernel_rfl) ?ob7 ?done7
              case ob7 =>
                refine And.intro (ob_move rfl (wt_none rfl) (ev_far rfl rfl) (fun _ _ h => h)) ?_
                refine And.intro (ob_move rfl (wt_none rfl) (ev_far rfl rfl) (fun _ _ h => h)) ?_
                refine And.intro (ob_len rfl (wt_none rfl) (ev_dep (j := 1) (by kernel_rfl) rfl rfl) (fun _ _ hx => ⟨_, by rw [hx]; exact len_txt Tryz.underlying9 _ _, rfl⟩)) ?_
                refine And.intro (ob_move rfl (wt_none rfl) (ev_far rfl rfl) (fun _ _ h => h)) ?_
                refine And.intro (ob_bin rfl (wt_none rfl) (ev_dep (j := 2) (by kernel_rfl) rfl rfl) (ev_dep (j := 3) (by kernel_rfl) rfl rfl) (fun _ _ _ hx hy => ⟨_, by rw [hx, hy]; exact bin_sub_nat _ _ ((P).length) (i) (by first | omega | (simp; omega)) (by first | omega | (simp; omega)) _, rfl⟩)) ?_
                refine And.intro (ob_slice_to rfl (wt_none rfl) (ev_dep (j := 0) (by kernel_rfl) rfl rfl) (ev_dep (j := 4) (by kernel_rfl) rfl rfl) (fun _ _ _ hx hy => ⟨_, by rw [hx, hy]; exact to_txt Tryz.underlying9 _ (((P).length - i)) (by first | omega | (simp; omega)) _, rfl⟩)) ?_
                refine And.intro (ob_bin rfl (wt_none rfl) (ev_dep (j := 5) (by kernel_rfl) rfl rfl) (ev_const _) (fun _ _ _ hx hy => ⟨.string (ByteArray.mk (List.toArray (((P).take (((P).length - i))) ++ ([46]) : List UInt8))), by rw [hx, hy]; exact bin_add_str _ _ ((P).take (((P).length - i))) ([46]) (by first | omega | (simp; omega)) _, rfl⟩)) ?_
                refine And.intro (ob_move rfl (wt_none rfl) (ev_far rfl rfl) (fun _ _ h => h)) ?_
                refine And.intro (ob_move rfl (wt_none rfl) (ev_far rfl rfl) (fun _ _ h => h)) ?_
                refine And.intro (ob_len rfl (wt_none rfl) (ev_dep (j := 8) (by kernel_rfl) rfl rfl) (fun _ _ hx => ⟨_, by rw [hx]; exact len_txt Tryz.underlying9 _ _, rfl⟩)) ?_
                refine And.intro (ob_move rfl (wt_none rfl) (ev_far rfl rfl) (fun _ _ h => h)) ?_
                refine And.intro (ob_bin rfl (wt_none rfl) (ev_dep (j := 9) (by kernel_rfl) rfl rfl) (ev_dep (j := 10) (by kernel_rfl) rfl rfl) (fun _ _ _ hx hy => ⟨_, by rw [hx, hy]; exact bin_sub_nat _ _ ((P).length) (i) (by first | omega | (simp; omega)) (by first | omega | (simp; omega)) _, rfl⟩)) ?_
                refine And.intro (ob_slice_from rfl (wt_none rfl) (ev_dep (j := 7) (by kernel_rfl) rfl rfl) (ev_dep (j := 11) (by kernel_rfl) rfl rfl) (fun _ _ _ hx hy => ⟨_, by rw [hx, hy]; exact from_txt Tryz.underlying9 _ (((P).length - i)) (by first | omega | (simp; omega)) _, rfl⟩)) ?_
                refine And.intro (ob_bin rfl (wt_none rfl) (ev_dep (j := 6) (by kernel_rfl) rfl rfl) (ev_dep (j := 12) (by kernel_rfl) rfl rfl) (fun _ _ _ hx hy => ⟨.string (ByteArray.mk (List.toArray ((((P).take (((P).length - i))) ++ ([46])) ++ ((P).drop (((P).length - i))) : List UInt8))), by rw [hx, hy]; exact bin_add_str _ _ (((P).take (((P).length - i))) ++ ([46])) ((P).drop (((P).length - i))) (by first | omega | (simp; omega)) _, rfl⟩)) ?_
                trivial
              case done7 =>
                refine fun w4 hb4 v0 h0 v1 h1 v2 h2 v3 h3 v4 h4 v5 h5 v6 h6 v7 h7 v8 h8 v9 h9 v10 h10 v11 h11 v12 h12 v13 h13 b hbf => ?_
                obtain rfl := h0; obtain rfl := h1; obtain rfl := h2; obtain rfl := h3; obtain rfl := h4; obtain rfl := h5; obtain rfl := h6; obtain rfl := h7; obtain rfl := h8; obtain rfl := h9; obtain rfl := h10; obtain rfl := h11; obtain rfl := h12; obtain rfl := h13
                simp only [Act.put, List.setIfInBounds_toArray, List.set_cons_zero, List.set_cons_succ] at hbf
                subst hbf
                replace B0 := B0.below hb4
                replace k0s := k0s.below hb4
                replace k0d := k0d.below hb4
                replace k0z := k0z.below hb4
                replace k0 := k0.below hb4
                replace k5 := k5.below hb4
                replace k6 := k6.below hb4
                replace bb := bb.trans (hb4.mono bb.size)
                have hsz4 := bb.size
                refine any_assign (i := 14) (.string (ByteArray.mk (List.toArray ((((P).take (((P).length - i))) ++ ([46])) ++ ((P).drop (((P).length - i))) : List UInt8)))) (by kernel_rfl) rfl rfl rfl rfl rfl fun b hbf => ?_
                simp only [Act.put, List.setIfInBounds_toArray, List.set_cons_zero, List.set_cons_succ] at hbf
                subst hbf
                refine any_done (by kernel_rfl) ?_
                obtain ⟨y0, y1, y2, _, _, _⟩ := three B0
                rcases hsg : ngB q.num with _ | _
                · rw [hsg] at y0
                  have HSG := Lib.hid hsg
                  clear hsg
                  have hsz8 : ¬ 9223372036854775807 < 1 + (ByteArray.mk (List.toArray ((P.take (P.length - i)) ++ 46 :: (P.drop (P.length - i)) : List UInt8))).size := by rw [bytes_size]; (simp; omega)
                  go_wp2
                  go_ret2
                  rw [HTT.out, HSG.out, decT_pos, HP1.out]
                  exact ⟨_, rfl, (by unfold StrIs; simp), bb⟩
                · rw [hsg] at y0
                  have HSG := Lib.hid hsg
                  clear hsg
                  have hsz8 : ¬ 9223372036854775807 < 1 + (ByteArray.mk (List.toArray ((P.take (P.length - i)) ++ 46 :: (P.drop (P.length - i)) : List UInt8))).size := by rw [bytes_size]; (simp; omega)
                  go_wp2
                  go_ret2
                  rw [HTT.out, HSG.out, decT_neg, HP1.out]
                  exact ⟨_, rfl, concat_one 45 _ _ (StrIs.mk _), bb⟩
end Go.Proofs.YtpcllhdfalebbaaGreatDoor.rto
namespace Go.Proofs.YtpcllhdfalebbaaGreatDoor.rto
open Go.RowKit Go.Proofs.YtpcllhdfalebbaaGreatDoor.num Go.Proofs.YtpcllhdfalebbaaGreatDoor.mem Go.Proofs.YtpcllhdfalebbaaGreatDoor.nat Go.Proofs.YtpcllhdfalebbaaGreatDoor.txt Go.Proofs.YtpcllhdfalebbaaGreatDoor.str Go.Proofs.YtpcllhdfalebbaaGreatDoor.flow Go.Proofs.YtpcllhdfalebbaaGreatDoor.whl Go.Proofs.YtpcllhdfalebbaaGreatDoor.rat
set_option linter.unusedVariables false
/-- A fraction of the document's own, or nothing and an error's number. -/
def RetRd (p : Int × Rat) (w : World) (e : Ending) (w' : World) : Prop := (p.1 = 0 → ∃ v, e = .returned (.tuple #[v, .int .i64 0]) ∧ IsP w' v p.2 ∧ FreshQ w.heap.size v ∧ Below w.heap.size w w') ∧ (p.1 ≠ 0 → e = .returned (.tuple #[.agg #[.bool false, .slice none 0 0, .slice none 0 0], .int .i64 p.1]) ∧ Below w.heap.size w w')
theorem RetRd.no {p : Int × Rat} {n : Int} {w : World} {e : Ending} {w' : World} (hp : p = (n, 0)) (hn : n ≠ 0) (he : e = .returned (.tuple #[.agg #[.bool false, .slice none 0 0, .slice none 0 0], .int .i64 n])) (hb : Below w.heap.size w w') : RetRd p w e w' := by
  subst hp
  exact ⟨fun h => absurd h hn, fun _ => ⟨he, hb⟩⟩
theorem RetRd.ok {p : Int × Rat} {q : Rat} {w : World} {e : Ending} {w' : World} (hp : p = (0, q)) {v : Value} (he : e = .returned (.tuple #[v, .int .i64 0])) (hv : IsP w' v q) (hf : FreshQ w.heap.size v) (hb : Below w.heap.size w w') : RetRd p w e w' := by
  subst hp
  exact ⟨fun _ => ⟨v, he, hv, hf, hb⟩, fun h => absurd rfl h⟩
theorem cut_len {l : List UInt8} : (cutA l).length ≤ l.length := by
  unfold cutA; exact (List.takeWhile_sublist _).length_le
theorem cut_take (l : List UInt8) : l.take (cutA l).length = cutA l := by
  have h : cutA l ++ cutB l = l := List.takeWhile_append_dropWhile
  conv => lhs; rw [← h]
  rw [List.take_append_of_le_length (by rw [h]; exact Nat.le_refl _)]
  rw [h]
  exact List.take_length
theorem cut_drop (l : List UInt8) : l.drop (cutA l).length = cutB l := by
  have h : cutA l ++ cutB l = l := List.takeWhile_append_dropWhile
  conv => lhs; arg 2; rw [← h]
  exact List.drop_left
theorem cut_sep {l : List UInt8} {j : Nat} {c : UInt8} (h : l[j]? = some c) (hc : sepB c = true) : j = j + (cutA (l.drop j)).length := by
  have : l.drop j = c :: l.drop (j + 1) := by
    obtain ⟨hj, rfl⟩ := List.getElem?_eq_some_iff.1 h
    exact List.drop_eq_getElem_cons hj
  rw [this]; unfold cutA; simp [hc]
theorem cut_go {l : List UInt8} {j n : Nat} {c : UInt8} (h : l[j]? = some c) (hc : sepB c = false) (hn : n = j + 1 + (cutA (l.drop (j + 1))).length) : n = j + (cutA (l.drop j)).length := by
  have : l.drop j = c :: l.drop (j + 1) := by
    obtain ⟨hj, rfl⟩ := List.getElem?_eq_some_iff.1 h
    exact List.drop_eq_getElem_cons hj
  rw [this]
  have e : cutA (c :: l.drop (j + 1)) = c :: cutA (l.drop (j + 1)) := by unfold cutA; simp [hc]
  rw [e, List.length_cons, hn]; omega
theorem read_last {l : List UInt8} (h : l.getLast? = some 37) : readQ l = readP 100 (l.take (l.length - 1)) := by
  unfold readQ; rw [if_pos h, List.dropLast_eq_take]
theorem read_plain {l : List UInt8} (h : ¬ l.getLast? = some 37) : readQ l = readP 1 l := by
  unfold readQ; rw [if_neg h]
theorem cutB_head {l r : List UInt8} {s : UInt8} (h : cutB l = s :: r) : s = 47 ∨ s = 46 := by
  have h1 := List.head?_dropWhile_not (fun c => !sepB c) l
  rw [show l.dropWhile (fun c => !sepB c) = s :: r from h] at h1
  have h2 : sepB s = true := by simpa using h1
  unfold sepB at h2
  simpa using h2
theorem read_noA {n : Nat} {l : List UInt8} (h : ¬ okS 10 (cutA l)) : readP n l = (5, 0) := by unfold readP; rw [if_neg h]
theorem read_B0 {n : Nat} {l : List UInt8} (h : okS 10 (cutA l)) (hB : cutB l = []) : readP n l = (0, mkRat ((numS 10 (cutA l) : Nat) : Int) n) := by unfold readP; rw [if_pos h, hB]
theorem read_noB {n : Nat} {l r : List UInt8} {s : UInt8} (h : okS 10 (cutA l)) (hB : cutB l = s :: r) (hr : ¬ okS 10 r) : readP n l = (5, 0) := by unfold readP; rw [if_pos h, hB]; exact if_neg hr
theorem read_B3 {n : Nat} {l r : List UInt8} {s : UInt8} (h : okS 10 (cutA l)) (hB : cutB l = s :: r) (hr : okS 10 r) (hs : s = 47) (hy : numS 10 r = 0) : readP n l = (3, 0) := by unfold readP; rw [if_pos h, hB]; simp only [if_pos hr, if_pos hs, if_pos hy]
theorem read_B1 {n : Nat} {l r : List UInt8} {s : UInt8} (h : okS 10 (cutA l)) (hB : cutB l = s :: r) (hr : okS 10 r) (hs : s = 47) (hy : ¬ numS 10 r = 0) : readP n l = (0, mkRat ((numS 10 (cutA l) : Nat) : Int) (numS 10 r * n)) := by unfold readP; rw [if_pos h, hB]; simp only [if_pos hr, if_pos hs, if_neg hy]
theorem read_B2 {n : Nat} {l r : List UInt8} {s : UInt8} (h : okS 10 (cutA l)) (hB : cutB l = s :: r) (hr : okS 10 r) (hs : ¬ s = 47) : readP n l = (0, mkRat ((numS 10 (cutA l) * 10 ^ r.length + numS 10 r : Nat) : Int) (10 ^ r.length * n)) := by unfold readP; rw [if_pos h, hB]; simp only [if_pos hr, if_neg hs]
theorem last_at {l : List UInt8} (hl : 0 < l.length) (h : l.getLast? = some 37) : (((ByteArray.mk l.toArray)[l.length - 1]'(by show _ < _; rw [bytes_size]; omega)).toNat : Int) = 37 := by
  have e : (ByteArray.mk l.toArray)[l.length - 1]'(by show _ < _; rw [bytes_size]; omega) = l[l.length - 1]'(by omega) := rfl
  rw [List.getLast?_eq_getElem?, List.getElem?_eq_getElem (by omega)] at h
  rw [e, Option.some.inj h]; rfl
theorem last_no {l : List UInt8} (hl : 0 < l.length) (h : ¬ l.getLast? = some 37) : ¬ (((ByteArray.mk l.toArray)[l.length - 1]'(by show _ < _; rw [bytes_size]; omega)).toNat : Int) = 37 := by
  have e : (ByteArray.mk l.toArray)[l.length - 1]'(by show _ < _; rw [bytes_size]; omega) = l[l.length - 1]'(by omega) := rfl
  rw [List.getLast?_eq_getElem?, List.getElem?_eq_getElem (by omega)] at h
  rw [e]
  intro h2
  refine h (congrArg some ?_)
  exact UInt8.toNat_inj.1 (by have : (37 : UInt8).toNat = 37 := rfl; omega)
set_option maxHeartbeats 6400000 in
set_option maxRecDepth 100000 in
theorem rparse9_any (l : List UInt8) (w : World) (hl : l.length ≤ 100) :
    Calls Tryz.prog 7 #[.string (ByteArray.mk (List.toArray (l : List UInt8)))] w (RetRd (readQ l) w) := by
  go_enter Tryz.func7, Tryz.ntmps7
  go_upto_region 1 with (fail)
  obtain ⟨wx, hwx, bb, BR0, hsz⟩ := vars1 w 36 #[.bool false, .slice none 0 0, .slice none 0 0]
  rw [hwx]
  clear hwx
  have hsz0 := bb.size
  go_wp2_with fail
  refine (refNum_any 1 1 _ rfl (by omega)).mono ?_
  rintro e w1 ⟨v1, rfl, kn, fn, b1⟩
  replace BR0 := BR0.below b1
  replace bb := bb.trans (b1.mono bb.size)
  have hsz1 := bb.size
  obtain ⟨An, cn, rfl, _⟩ := id kn
  by_cases hp : l.getLast? = some 37
  · have hne : 0 < l.length := by
      cases l with
      | nil => simp at hp
      | cons a l => simp
    have hi37 := last_at hne hp
    have hsb : l.length - 1 < (ByteArray.mk l.toArray).size := by rw [bytes_size]; omega
    have c37 : ((((ByteArray.mk l.toArray)[l.length - 1]'hsb).toNat : Int) == 37) = true := by rw [beq_iff_eq]; exact hi37
    have HR := Lib.hid (read_last hp)
    have h1l : 1 ≤ (l.length : Int) := by omega
    clear hp hi37
    have sB := bb.size
    go_upto_region 3 with (fail)
    refine flow 7 [ps .i64 (digs 10000 100) w1.heap.size, Pd.eq (.string (ByteArray.mk (List.toArray (l : List UInt8)))), Pd.eq (.string (ByteArray.mk (List.toArray (l : List UInt8)))), Pd.eq (.int .i64 (((l).length : Nat) : Int)), Pd.eq (.int .i64 ((((l).length - 1) : Nat) : Int)), Pd.eq (.string (ByteArray.mk (List.toArray ((l).take (((l).length - 1)) : List UInt8)))), ps .i64 (digs 10000 100) w1.heap.size] (by kernel_rfl) (by kernel_rfl) ?ob1 ?done1
    case ob1 =>
      refine And.intro (ob_call1 rfl Tryz.func28 (by kernel_rfl) (wt_none rfl) (ev_const _) (fun w2 u0 hb h0 => by obtain rfl := h0; exact (refNum_any 100 100 _ rfl (by omega)).mono fun e w3 h => RetS.pd h hb.size)) ?_
      refine And.intro (ob_move rfl (wt_none rfl) (ev_far rfl rfl) (fun _ _ h => h)) ?_
      refine And.intro (ob_move rfl (wt_none rfl) (ev_far rfl rfl) (fun _ _ h => h)) ?_
      refine And.intro (ob_len rfl (wt_none rfl) (ev_dep (j := 2) (by kernel_rfl) rfl rfl) (fun _ _ hx => ⟨_, by rw [hx]; exact len_txt Tryz.underlying9 _ _, rfl⟩)) ?_
      refine And.intro (ob_bin rfl (wt_none rfl) (ev_dep (j := 3) (by kernel_rfl) rfl rfl) (ev_const _) (fun _ _ _ hx hy => ⟨_, by rw [hx, hy]; exact bin_sub_nat _ _ ((l).length) (1) (by first | omega | (simp; omega)) (by first | omega | (simp; omega)) _, rfl⟩)) ?_
      refine And.intro (ob_slice_to rfl (wt_none rfl) (ev_dep (j := 1) (by kernel_rfl) rfl rfl) (ev_dep (j := 4) (by kernel_rfl) rfl rfl) (fun _ _ _ hx hy => ⟨_, by rw [hx, hy]; exact to_txt Tryz.underlying9 _ (((l).length - 1)) (by first | omega | (simp; omega)) _, rfl⟩)) ?_
      refine And.intro (ob_assign rfl (wt_none rfl) (ev_dep (j := 0) (by kernel_rfl) rfl rfl) (fun _ _ h => h)) ?_
      trivial
    case done1 =>
      refine fun w2 hb2 v0 h0 v1 h1 v2 h2 v3 h3 v4 h4 v5 h5 v6 h6 b hbf => ?_
      obtain rfl := h1; obtain rfl := h2; obtain rfl := h3; obtain rfl := h4; obtain rfl := h5
      obtain ⟨q0, f0⟩ := h0
      obtain ⟨q6, f6⟩ := h6
      simp only [Act.put, List.setIfInBounds_toArray, List.set_cons_zero, List.set_cons_succ] at hbf
      subst hbf
      replace BR0 := BR0.below hb2
      replace kn := kn.below hb2
      replace bb := bb.trans (hb2.mono bb.size)
      have hsz2 := bb.size
      have s_0 := sB
      have s_6 := sB
      obtain ⟨Am, cm, rfl, _⟩ := id q6
      have km := q6
      have kmf := f6
      have kmz_ := s_6
      refine any_assign (i := 7) (.string (ByteArray.mk (List.toArray ((l).take (((l).length - 1)) : List UInt8)))) (by kernel_rfl) rfl rfl rfl rfl rfl fun b hbf => ?_
      simp only [Act.put, List.setIfInBounds_toArray, List.set_cons_zero] at hbf
      subst hbf
      refine any_done (by kernel_rfl) ?_
      obtain ⟨T, hT⟩ : ∃ T, T = l.take (l.length - 1) := ⟨_, rfl⟩
      have lT : T.length ≤ 100 := by rw [hT, List.length_take]; omega
      rw [← hT] at HR
      rw [show List.take (l.length - 1) l = T from hT.symm]
      clear hT c37
      have sB0 := bb.size
      go_wp2
      go_loopw [5, 6] (fun v5 v6 wr => ∃ k c : Nat, k ≤ T.length ∧ Hid (c = k + (cutA (T.drop k)).length) ∧ c ≤ T.length ∧ Below w2.heap.size w2 wr ∧ v5 = .int .i64 (c : Int) ∧ v6 = .int .i64 ((k : Int) - 1)) (fun _ v6 _ => (intOf v6 + 1).toNat)
      case atStart => exact ⟨T.length, T.length, Nat.le_refl _, by show _ = _; rw [List.drop_length]; rfl, Nat.le_refl _, Below.refl _ _, rfl, rfl⟩
      case round =>
        obtain ⟨k, c, hk, HC, hcl, hbr, rfl, rfl⟩ := hrel
        by_cases hlt : 0 < k
        · obtain ⟨j, rfl⟩ : ∃ j, k = j + 1 := ⟨k - 1, by omega⟩
          have hj : j < T.length := by omega
          have hat : T[j]? = some (T[j]'hj) := List.getElem?_eq_getElem hj
          have hjb : j < (ByteArray.mk T.toArray).size := by rw [bytes_size]; exact hj
          by_cases hs : sepB (T[j]'hj) = true
          · have HC2 := Lib.hid (cut_sep hat hs)
            by_cases h47 : T[j]'hj = 47
            · have c1 : ((((ByteArray.mk T.toArray)[j]'hjb).toNat : Int) == 47) = true := by rw [show (ByteArray.mk T.toArray)[j]'hjb = T[j]'hj from rfl, h47]; rfl
              clear hat hs h47
              go_wp2
              go_roundw
              case rel => exact ⟨j, j, by omega, HC2, by omega, hbr, by go_num, by go_num⟩
              case measure => simp [intOf]
            · have h46 : T[j]'hj = 46 := by unfold sepB at hs; simpa [h47] using hs
              have c1 : ((((ByteArray.mk T.toArray)[j]'hjb).toNat : Int) == 47) = false := by rw [show (ByteArray.mk T.toArray)[j]'hjb = T[j]'hj from rfl, h46]; rfl
              have c2 : ((((ByteArray.mk T.toArray)[j]'hjb).toNat : Int) == 46) = true := by rw [show (ByteArray.mk T.toArray)[j]'hjb = T[j]'hj from rfl, h46]; rfl
              clear hat hs h47 h46
              go_wp2
              go_roundw
              case rel => exact ⟨j, j, by omega, HC2, by omega, hbr, by go_num, by go_num⟩
              case measure => simp [intOf]
          · have hs2 : sepB (T[j]'hj) = false := by simpa using hs
            have HC2 := Lib.hid (cut_go hat hs2 HC.out)
            have c1 : ((((ByteArray.mk T.toArray)[j]'hjb).toNat : Int) == 47) = false := by
              rw [show (ByteArray.mk T.toArray)[j]'hjb = T[j]'hj from rfl, beq_eq_false_iff_ne]
              intro h
              have : T[j]'hj = 47 := UInt8.toNat_inj.1 (by have : (47 : UInt8).toNat = 47 := rfl; omega)
              rw [this] at hs2; revert hs2; decide
            have c2 : ((((ByteArray.mk T.toArray)[j]'hjb).toNat : Int) == 46) = false := by
              rw [show (ByteArray.mk T.toArray)[j]'hjb = T[j]'hj from rfl, beq_eq_false_iff_ne]
              intro h
              have : T[j]'hj = 46 := UInt8.toNat_inj.1 (by have : (46 : UInt8).toNat = 46 := rfl; omega)
              rw [this] at hs2; revert hs2; decide
            clear hat hs hs2
            go_wp2
            go_roundw
            case rel => exact ⟨j, c, by omega, HC2, hcl, hbr, rfl, by go_num⟩
            case measure => simp [intOf]
        · skip
          replace BR0 := BR0.below hbr
          replace kn := kn.below hbr
          replace km := km.below hbr
          replace bb := bb.trans (hbr.mono bb.size)
          have hsz2 := bb.size
          have hc0 : c = (cutA T).length := by have := HC.out; rw [show k = 0 by omega, List.drop_zero] at this; omega
          have HCA : Hid (T.take c = cutA T) := by show _ = _; rw [hc0]; exact cut_take T
          have HCB : Hid (T.drop c = cutB T) := by show _ = _; rw [hc0]; exact cut_drop T
          have lcA : (cutA T).length ≤ 100 := by omega
          have hk0 : ¬ 0 < k := hlt
          clear hc0
          by_cases hA : okS 10 (cutA T)
          · have HAO := Lib.hid hA
            clear hA
            go_wp2_with fail
            refine (number_any _ (cutA T) true _ (HCA.out ▸ (StrIs.mk T).to_ c) (by omega) (.inl ⟨rfl, HAO.out⟩)).mono ?_
            rintro e w3_ ⟨va, rfl, ka, bqa⟩
            replace ka := ka rfl
            obtain ⟨Aa, ca, rfl, _⟩ := id ka
            replace BR0 := BR0.below bqa
            replace kn := kn.below bqa
            replace km := km.below bqa
            replace bb := bb.trans (bqa.mono bb.size)
            have hsz3 := bb.size
            have lx := numS_len (b := 10) (by omega) HAO.out
            have HLZ : Hid (lenZ (((numS 10 (cutA T)) : Nat) : Int) ≤ 30000) := by show _ ≤ _; rw [lenD]; omega
            by_cases hB : cutB T = []
            · have hcT : c = T.length := by have := congrArg List.length HCB.out; rw [hB, List.length_drop] at this; simp at this; omega
              have hcb : ((c : Int) == (T.length : Int)) = true := by rw [beq_iff_eq]; omega
              have HBN := Lib.hid hB
              clear hB hcT
              have HDN : Hid (100 ≠ 0) := by show _ ≠ _; omega
              have HLD : Hid ((digs 4294967296 100).length ≤ 30000) := by show _ ≤ _; exact Nat.le_trans (digs_len_le (k := 1) (by omega) (by omega)) (by omega)
              have sB := bb.size
              go_upto_region 14 with (fail)
              refine flowp 4 [Pd.eq (.slice Aa (digs 10000 (numS 10 (cutA T))).length ca), pr ((((numS 10 (cutA T)) : Nat) : Int)), Pd.eq (.slice Am (digs 10000 100).length cm), ppf (mkRat (((numS 10 (cutA T)) : Nat) : Int) 100) w3_.heap.size] (by kernel_rfl) ?ob2 ?done2
              case ob2 =>
                refine And.intro (ob_move rfl (wt_none rfl) (ev_far rfl rfl) (fun _ _ h => h)) ?_
                refine And.intro (ob_build1b rfl (wt_none rfl) (ev_dep (j := 0) (by kernel_rfl) rfl rfl) (fun w2 u hb hu => by obtain rfl := hu; exact ⟨.agg #[.bool false, .slice Aa (digs 10000 (numS 10 (cutA T))).length ca], by kernel_rfl, isR_mk (ka.below hb) (Int.natAbs_natCast _) (ngB_of_pos (by omega)).symm⟩)) ?_
                refine And.intro (ob_move rfl (wt_none rfl) (ev_far rfl rfl) (fun _ _ h => h)) ?_
                refine And.intro (ob_call2 rfl Tryz.func30 (by kernel_rfl) (wt_none rfl) (ev_dep (j := 1) (by kernel_rfl) rfl rfl) (ev_dep (j := 2) (by kernel_rfl) rfl rfl) (fun w2 u0 u1 hb h0 h1 => by obtain rfl := h1; exact (rlow_any _ (((numS 10 (cutA T)) : Nat) : Int) _ 100 _ h0 (km.below hb) HDN.out HLZ.out HLD.out).mono fun e w3 h => RetPF.pdf h hb.size)) ?_
                trivial
              case done2 =>
                refine fun w4 hb4 v0 h0 v1 h1 v2 h2 v3 h3 b hbf => ?_
                obtain rfl := h0; obtain rfl := h2
                have q1 := h1
                obtain ⟨q3, f3⟩ := h3
                simp only [Act.put, List.setIfInBounds_toArray, List.set_cons_zero, List.set_cons_succ] at hbf
                subst hbf
                replace BR0 := BR0.below hb4
                replace kn := kn.below hb4
                replace km := km.below hb4
                replace ka := ka.below hb4
                replace bb := bb.trans (hb4.mono bb.size)
                have hsz4 := bb.size
                have s_3 := sB
                obtain ⟨u3, t3, rfl, q3, d3⟩ := q3
                obtain ⟨A9, c9, rfl, _⟩ := id q3
                obtain ⟨D9, e9, rfl, _⟩ := id d3
                refine ops_store (i := 4) rfl rfl rfl rfl rfl rfl (cells := [.bool (ngB (mkRat (((numS 10 (cutA T)) : Nat) : Int) 100).num), .slice A9 (digs 10000 (mkRat (((numS 10 (cutA T)) : Nat) : Int) 100).num.natAbs).length c9, .slice D9 (digs 10000 (mkRat (((numS 10 (cutA T)) : Nat) : Int) 100).den).length e9]) rfl BR0 rfl (by kernel_rfl) (one3 rfl rfl rfl) fun w9 hg9 B9 => ?_
                have k9 := off q3 BR0 no_ints3 hg9
                have d9 := off d3 BR0 no_ints3 hg9
                have f9 := f3.mono (show w.heap.size ≤ _ from s_3)
                have bb9 := bb.trans ((Below.refl _ _).grown hg9 bb.size (fun g hg => by injection hg with hg; omega))
                obtain ⟨C0, C1, C2, _, _, _⟩ := three B9
                refine ops_assign (i := 5) (.int .i64 0) rfl rfl rfl rfl rfl fun b hbf => ?_
                simp only [Act.put, List.setIfInBounds_toArray, List.set_cons_zero, List.set_cons_succ] at hbf
                subst hbf
                refine ops_done ?_
                go_wp2
                exact bodyPost_ret (v := .tuple #[.agg #[.bool (ngB (mkRat (((numS 10 (cutA T)) : Nat) : Int) 100).num), .slice A9 (digs 10000 (mkRat (((numS 10 (cutA T)) : Nat) : Int) 100).num.natAbs).length c9, .slice D9 (digs 10000 (mkRat (((numS 10 (cutA T)) : Nat) : Int) 100).den).length e9], .int .i64 0]) (by simp [results, Tryz.results7, go_sem, C0, C1, C2]) rfl (RetRd.ok (by rw [HR.out]; exact read_B0 HAO.out HBN.out) rfl ⟨_, _, rfl, k9, d9⟩ f9 bb9)
            · obtain ⟨s, r, hsr⟩ : ∃ s r, cutB T = s :: r := by
                cases h : cutB T with
                | nil => exact absurd h hB
                | cons s r => exact ⟨s, r, rfl⟩
              clear hB
              have hdr := HCB.out
              rw [hsr] at hdr
              have hcT : c < T.length := by have := congrArg List.length hdr; rw [List.length_drop] at this; simp at this; omega
              have hcb : ((c : Int) == (T.length : Int)) = false := by rw [beq_eq_false_iff_ne]; omega
              have hcs : T[c]'hcT = s ∧ T.drop (c + 1) = r := by rw [List.drop_eq_getElem_cons hcT] at hdr; injection hdr with h1 h2; exact ⟨h1, h2⟩
              have HSR := Lib.hid hsr
              have HCR := Lib.hid hcs.2
              have HCS := Lib.hid hcs.1
              have hrl : r.length + c + 1 = T.length := by have := congrArg List.length hcs.2; rw [List.length_drop] at this; omega
              have HSE : Hid (s = 47 ∨ s = 46) := Lib.hid (cutB_head hsr)
              clear hsr hdr hcs
              by_cases hR : okS 10 r
              · have HRO := Lib.hid hR
                clear hR
                go_wp2_with fail
                refine (number_any _ (r) true _ (HCR.out ▸ (StrIs.mk T).from_ (c + 1)) (by omega) (.inl ⟨rfl, HRO.out⟩)).mono ?_
                rintro e w4_ ⟨vb, rfl, kb, bqb⟩
                replace kb := kb rfl
                obtain ⟨Ab, cb, rfl, _⟩ := id kb
                replace BR0 := BR0.below bqb
                replace kn := kn.below bqb
                replace km := km.below bqb
                replace ka := ka.below bqb
                replace bb := bb.trans (bqb.mono bb.size)
                have hsz4 := bb.size
                have ly := numS_len (b := 10) (by omega) HRO.out
                have hcS : c < (ByteArray.mk T.toArray).size := by rw [bytes_size]; exact hcT
                by_cases h47 : s = 47
                · have c47 : ((((ByteArray.mk T.toArray)[c]'hcS).toNat : Int) == 47) = true := by rw [show (ByteArray.mk T.toArray)[c]'hcS = T[c]'hcT from rfl, HCS.out, h47]; rfl
                  have H47 := Lib.hid h47
                  clear h47
                  by_cases hy : numS 10 r = 0
                  · have hyl : (digs 10000 (numS 10 r)).length = 0 := rlen0 hy
                    have hyb : ((((digs 10000 (numS 10 r)).length : Nat) : Int) == 0) = true := by rw [hyl]; rfl
                    have HY := Lib.hid hy
                    clear hy hyl
                    obtain ⟨y0, y1, y2, z0, z1, z2⟩ := three BR0
                    go_wp2
                    exact bodyPost_ret (v := .tuple #[.agg #[.bool false, .slice none 0 0, .slice none 0 0], .int .i64 3]) (by simp [results, Tryz.results7, go_sem, y0, y1, y2]) rfl (RetRd.no (by rw [HR.out]; exact read_B3 HAO.out HSR.out HRO.out H47.out HY.out) (by decide) rfl (((bb.setCell (Nat.le_refl _) _).setCell (Nat.le_refl _) _).setCell (Nat.le_refl _) _))
                  · have hyl : 0 < (digs 10000 (numS 10 r)).length := rlenp (by omega)
                    have hyb : ((((digs 10000 (numS 10 r)).length : Nat) : Int) == 0) = false := by rw [beq_eq_false_iff_ne]; omega
                    have HY := Lib.hid hy
                    have HDN : Hid (numS 10 r * 100 ≠ 0) := Nat.mul_ne_zero hy (by omega)
                    have HLD : Hid ((digs 4294967296 (numS 10 r * 100)).length ≤ 30000) := by show _ ≤ _; have h1 := mul_len (numS 10 r) 100; have h2 : (digs 4294967296 100).length ≤ 1 := digs_len_le (k := 1) (by omega) (by omega); omega
                    have HB1 : Hid ((digs 10000 (numS 10 r)).length ≤ 1000000) := by show _ ≤ _; have := dec_le (numS 10 r); omega
                    have HB2 : Hid ((digs 10000 100).length ≤ 1000000) := by show _ ≤ _; exact Nat.le_trans (digs_len_le (k := 1) (by omega) (by omega)) (by omega)
                    clear hy
                    have sB := bb.size
                    go_upto_region 21 with (fail)
                    refine flowp 6 [Pd.eq (.slice Aa (digs 10000 (numS 10 (cutA T))).length ca), pr ((((numS 10 (cutA T)) : Nat) : Int)), Pd.eq (.slice Ab (digs 10000 (numS 10 (r))).length cb), Pd.eq (.slice Am (digs 10000 100).length cm), ps .i64 (digs 10000 (numS 10 r * 100)) w4_.heap.size, ppf (mkRat (((numS 10 (cutA T)) : Nat) : Int) (numS 10 r * 100)) w4_.heap.size] (by kernel_rfl) ?ob3 ?done3
                    case ob3 =>
                      refine And.intro (ob_move rfl (wt_none rfl) (ev_far rfl rfl) (fun _ _ h => h)) ?_
                      refine And.intro (ob_build1b rfl (wt_none rfl) (ev_dep (j := 0) (by kernel_rfl) rfl rfl) (fun w2 u hb hu => by obtain rfl := hu; exact ⟨.agg #[.bool false, .slice Aa (digs 10000 (numS 10 (cutA T))).length ca], by kernel_rfl, isR_mk (ka.below hb) (Int.natAbs_natCast _) (ngB_of_pos (by omega)).symm⟩)) ?_
                      refine And.intro (ob_move rfl (wt_none rfl) (ev_far rfl rfl) (fun _ _ h => h)) ?_
                      refine And.intro (ob_move rfl (wt_none rfl) (ev_far rfl rfl) (fun _ _ h => h)) ?_
                      refine And.intro (ob_call2 rfl Tryz.func31 (by kernel_rfl) (wt_none rfl) (ev_dep (j := 2) (by kernel_rfl) rfl rfl) (ev_dep (j := 3) (by kernel_rfl) rfl rfl) (fun w2 u0 u1 hb h0 h1 => by obtain rfl := h0; obtain rfl := h1; exact (refMul_any _ _ (numS 10 r) 100 _ (kb.below hb) (km.below hb) HB1.out HB2.out).mono fun e w3 h => RetS.pd h hb.size)) ?_
                      refine And.intro (ob_call2 rfl Tryz.func30 (by kernel_rfl) (wt_none rfl) (ev_dep (j := 1) (by kernel_rfl) rfl rfl) (ev_dep (j := 4) (by kernel_rfl) rfl rfl) (fun w2 u0 u1 hb h0 h1 => by exact (rlow_any _ (((numS 10 (cutA T)) : Nat) : Int) _ (numS 10 r * 100) _ h0 h1.1 HDN.out HLZ.out HLD.out).mono fun e w3 h => RetPF.pdf h hb.size)) ?_
                      trivial
                    case done3 =>
                      refine fun w5 hb5 v0 h0 v1 h1 v2 h2 v3 h3 v4 h4 v5 h5 b hbf => ?_
                      obtain rfl := h0; obtain rfl := h2; obtain rfl := h3
                      have q1 := h1
                      obtain ⟨q4, f4⟩ := h4
                      obtain ⟨q5, f5⟩ := h5
                      simp only [Act.put, List.setIfInBounds_toArray, List.set_cons_zero, List.set_cons_succ] at hbf
                      subst hbf
                      replace BR0 := BR0.below hb5
                      replace kn := kn.below hb5
                      replace km := km.below hb5
                      replace ka := ka.below hb5
                      replace kb := kb.below hb5
                      replace bb := bb.trans (hb5.mono bb.size)
                      have hsz5 := bb.size
                      have s_4 := sB
                      have s_5 := sB
                      obtain ⟨u5, t5, rfl, q5, d5⟩ := q5
                      obtain ⟨A9, c9, rfl, _⟩ := id q5
                      obtain ⟨D9, e9, rfl, _⟩ := id d5
                      refine ops_store (i := 6) rfl rfl rfl rfl rfl rfl (cells := [.bool (ngB (mkRat (((numS 10 (cutA T)) : Nat) : Int) (numS 10 r * 100)).num), .slice A9 (digs 10000 (mkRat (((numS 10 (cutA T)) : Nat) : Int) (numS 10 r * 100)).num.natAbs).length c9, .slice D9 (digs 10000 (mkRat (((numS 10 (cutA T)) : Nat) : Int) (numS 10 r * 100)).den).length e9]) rfl BR0 rfl (by kernel_rfl) (one3 rfl rfl rfl) fun w9 hg9 B9 => ?_
                      have k9 := off q5 BR0 no_ints3 hg9
                      have d9 := off d5 BR0 no_ints3 hg9
                      have f9 := f5.mono (show w.heap.size ≤ _ from s_5)
                      have bb9 := bb.trans ((Below.refl _ _).grown hg9 bb.size (fun g hg => by injection hg with hg; omega))
                      obtain ⟨C0, C1, C2, _, _, _⟩ := three B9
                      refine ops_assign (i := 7) (.int .i64 0) rfl rfl rfl rfl rfl fun b hbf => ?_
                      simp only [Act.put, List.setIfInBounds_toArray, List.set_cons_zero, List.set_cons_succ] at hbf
                      subst hbf
                      refine ops_done ?_
                      go_wp2
                      exact bodyPost_ret (v := .tuple #[.agg #[.bool (ngB (mkRat (((numS 10 (cutA T)) : Nat) : Int) (numS 10 r * 100)).num), .slice A9 (digs 10000 (mkRat (((numS 10 (cutA T)) : Nat) : Int) (numS 10 r * 100)).num.natAbs).length c9, .slice D9 (digs 10000 (mkRat (((numS 10 (cutA T)) : Nat) : Int) (numS 10 r * 100)).den).length e9], .int .i64 0]) (by simp [results, Tryz.results7, go_sem, C0, C1, C2]) rfl (RetRd.ok (by rw [HR.out]; exact read_B1 HAO.out HSR.out HRO.out H47.out HY.out) rfl ⟨_, _, rfl, k9, d9⟩ f9 bb9)
                · have c47 : ((((ByteArray.mk T.toArray)[c]'hcS).toNat : Int) == 47) = false := by
                    rw [show (ByteArray.mk T.toArray)[c]'hcS = T[c]'hcT from rfl, HCS.out]
                    rcases HSE.out with h | h
                    · exact absurd h h47
                    · rw [h]; rfl
                  have H47 := Lib.hid h47
                  clear h47
                  have HPL : Hid ((T.length : Int) - (c : Int) - 1 = ((r.length : Nat) : Int)) := by show _ = _; omega
                  go_wp2_with fail
                  refine (ten_any _ r.length _ HPL.out (by omega)).mono ?_
                  rintro e wp ⟨vp, rfl, kp, fp, bp⟩
                  obtain ⟨Ap, cp, rfl, _⟩ := id kp
                  replace BR0 := BR0.below bp
                  replace kn := kn.below bp
                  replace km := km.below bp
                  replace ka := ka.below bp
                  replace kb := kb.below bp
                  replace bb := bb.trans (bp.mono bb.size)
                  have hsz5 := bb.size
                  have lten := ten_len r.length
                  have lm1 := mul_len (numS 10 (cutA T)) (10 ^ r.length)
                  have lm2 := mul_len (10 ^ r.length) 100
                  have la1 := add_len ((numS 10 (cutA T)) * 10 ^ r.length) (numS 10 r)
                  have ln1 : (digs 4294967296 100).length ≤ 1 := digs_len_le (k := 1) (by omega) (by omega)
                  have HLZ : Hid (lenZ ((((numS 10 (cutA T)) * 10 ^ r.length + numS 10 r) : Nat) : Int) ≤ 30000) := by show _ ≤ _; rw [lenD]; omega
                  have HDN : Hid (10 ^ r.length * 100 ≠ 0) := Nat.mul_ne_zero (by have : 0 < 10 ^ r.length := Nat.pow_pos (by omega); omega) (by omega)
                  have HLD : Hid ((digs 4294967296 (10 ^ r.length * 100)).length ≤ 30000) := by show _ ≤ _; omega
                  have HA1 : Hid ((digs 10000 (numS 10 (cutA T))).length ≤ 1000000) := by show _ ≤ _; have := dec_le (numS 10 (cutA T)); omega
                  have HA2 : Hid ((digs 10000 (10 ^ r.length)).length ≤ 1000000) := by show _ ≤ _; have := dec_le (10 ^ r.length); omega
                  have HA3 : Hid ((digs 10000 ((numS 10 (cutA T)) * 10 ^ r.length)).length ≤ 1000000) := by show _ ≤ _; have := dec_le ((numS 10 (cutA T)) * 10 ^ r.length); omega
                  have HA4 : Hid ((digs 10000 (numS 10 r)).length ≤ 1000000) := by show _ ≤ _; have := dec_le (numS 10 r); omega
                  have HA5 : Hid ((digs 10000 100).length ≤ 1000000) := by show _ ≤ _; have := dec_le 100; omega
                  have sB := bb.size
                  go_upto_region 23 with (fail)
                  refine flowp 10 [Pd.eq (.slice Aa (digs 10000 (numS 10 (cutA T))).length ca), Pd.eq (.slice Ap (digs 10000 (10 ^ r.length)).length cp), ps .i64 (digs 10000 ((numS 10 (cutA T)) * (10 ^ r.length))) wp.heap.size, Pd.eq (.slice Ab (digs 10000 (numS 10 (r))).length cb), ps .i64 (digs 10000 ((numS 10 (cutA T)) * 10 ^ r.length + numS 10 r)) wp.heap.size, pr (((((numS 10 (cutA T)) * 10 ^ r.length + numS 10 r) : Nat) : Int)), Pd.eq (.slice Ap (digs 10000 (10 ^ r.length)).length cp), Pd.eq (.slice Am (digs 10000 100).length cm), ps .i64 (digs 10000 ((10 ^ r.length) * 100)) wp.heap.size, ppf (mkRat ((((numS 10 (cutA T)) * 10 ^ r.length + numS 10 r) : Nat) : Int) (10 ^ r.length * 100)) wp.heap.size] (by kernel_rfl) ?ob4 ?done4
                  case ob4 =>
                    refine And.intro (ob_move rfl (wt_none rfl) (ev_far rfl rfl) (fun _ _ h => h)) ?_
                    refine And.intro (ob_move rfl (wt_none rfl) (ev_far rfl rfl) (fun _ _ h => h)) ?_
                    refine And.intro (ob_call2 rfl Tryz.func31 (by kernel_rfl) (wt_none rfl) (ev_dep (j := 0) (by kernel_rfl) rfl rfl) (ev_dep (j := 1) (by kernel_rfl) rfl rfl) (fun w2 u0 u1 hb h0 h1 => by obtain rfl := h0; obtain rfl := h1; exact (refMul_any _ _ (numS 10 (cutA T)) (10 ^ r.length) _ (ka.below hb) (kp.below hb) HA1.out HA2.out).mono fun e w3 h => RetS.pd h hb.size)) ?_
                    refine And.intro (ob_move rfl (wt_none rfl) (ev_far rfl rfl) (fun _ _ h => h)) ?_
                    refine And.intro (ob_call2 rfl Tryz.func33 (by kernel_rfl) (wt_none rfl) (ev_dep (j := 2) (by kernel_rfl) rfl rfl) (ev_dep (j := 3) (by kernel_rfl) rfl rfl) (fun w2 u0 u1 hb h0 h1 => by obtain rfl := h1; exact (refAdd_any _ _ ((numS 10 (cutA T)) * 10 ^ r.length) (numS 10 r) _ h0.1 (kb.below hb) HA3.out HA4.out).mono fun e w3 h => RetS.pd h hb.size)) ?_
                    refine And.intro (ob_build1b rfl (wt_none rfl) (ev_dep (j := 4) (by kernel_rfl) rfl rfl) (fun w2 u hb hu => by obtain ⟨A7, c7, rfl, _⟩ := id hu.1; exact ⟨.agg #[.bool false, .slice A7 (digs 10000 (((numS 10 (cutA T)) * 10 ^ r.length + numS 10 r))).length c7], by kernel_rfl, isR_mk hu.1 (Int.natAbs_natCast _) (ngB_of_pos (by omega)).symm⟩)) ?_
                    refine And.intro (ob_move rfl (wt_none rfl) (ev_far rfl rfl) (fun _ _ h => h)) ?_
                    refine And.intro (ob_move rfl (wt_none rfl) (ev_far rfl rfl) (fun _ _ h => h)) ?_
                    refine And.intro (ob_call2 rfl Tryz.func31 (by kernel_rfl) (wt_none rfl) (ev_dep (j := 6) (by kernel_rfl) rfl rfl) (ev_dep (j := 7) (by kernel_rfl) rfl rfl) (fun w2 u0 u1 hb h0 h1 => by obtain rfl := h0; obtain rfl := h1; exact (refMul_any _ _ (10 ^ r.length) 100 _ (kp.below hb) (km.below hb) HA2.out HA5.out).mono fun e w3 h => RetS.pd h hb.size)) ?_
                    refine And.intro (ob_call2 rfl Tryz.func30 (by kernel_rfl) (wt_none rfl) (ev_dep (j := 5) (by kernel_rfl) rfl rfl) (ev_dep (j := 8) (by kernel_rfl) rfl rfl) (fun w2 u0 u1 hb h0 h1 => by exact (rlow_any _ ((((numS 10 (cutA T)) * 10 ^ r.length + numS 10 r) : Nat) : Int) _ (10 ^ r.length * 100) _ h0 h1.1 HDN.out HLZ.out HLD.out).mono fun e w3 h => RetPF.pdf h hb.size)) ?_
                    trivial
                  case done4 =>
                    refine fun w6 hb6 v0 h0 v1 h1 v2 h2 v3 h3 v4 h4 v5 h5 v6 h6 v7 h7 v8 h8 v9 h9 b hbf => ?_
                    obtain rfl := h0; obtain rfl := h1; obtain rfl := h3; obtain rfl := h6; obtain rfl := h7
                    obtain ⟨q2, f2⟩ := h2
                    obtain ⟨q4, f4⟩ := h4
                    have q5 := h5
                    obtain ⟨q8, f8⟩ := h8
                    obtain ⟨q9, f9⟩ := h9
                    simp only [Act.put, List.setIfInBounds_toArray, List.set_cons_zero, List.set_cons_succ] at hbf
                    subst hbf
                    replace BR0 := BR0.below hb6
                    replace kn := kn.below hb6
                    replace km := km.below hb6
                    replace ka := ka.below hb6
                    replace kb := kb.below hb6
                    replace kp := kp.below hb6
                    replace bb := bb.trans (hb6.mono bb.size)
                    have hsz6 := bb.size
                    have s_2 := sB
                    have s_4 := sB
                    have s_8 := sB
                    have s_9 := sB
                    obtain ⟨u9, t9, rfl, q9, d9⟩ := q9
                    obtain ⟨A9, c9, rfl, _⟩ := id q9
                    obtain ⟨D9, e9, rfl, _⟩ := id d9
                    refine ops_store (i := 10) rfl rfl rfl rfl rfl rfl (cells := [.bool (ngB (mkRat ((((numS 10 (cutA T)) * 10 ^ r.length + numS 10 r) : Nat) : Int) (10 ^ r.length * 100)).num), .slice A9 (digs 10000 (mkRat ((((numS 10 (cutA T)) * 10 ^ r.length + numS 10 r) : Nat) : Int) (10 ^ r.length * 100)).num.natAbs).length c9, .slice D9 (digs 10000 (mkRat ((((numS 10 (cutA T)) * 10 ^ r.length + numS 10 r) : Nat) : Int) (10 ^ r.length * 100)).den).length e9]) rfl BR0 rfl (by kernel_rfl) (one3 rfl rfl rfl) fun w9 hg9 B9 => ?_
                    have k9 := off q9 BR0 no_ints3 hg9
                    have d9 := off d9 BR0 no_ints3 hg9
                    have f9 := f9.mono (show w.heap.size ≤ _ from s_9)
                    have bb9 := bb.trans ((Below.refl _ _).grown hg9 bb.size (fun g hg => by injection hg with hg; omega))
                    obtain ⟨C0, C1, C2, _, _, _⟩ := three B9
                    refine ops_assign (i := 11) (.int .i64 0) rfl rfl rfl rfl rfl fun b hbf => ?_
                    simp only [Act.put, List.setIfInBounds_toArray, List.set_cons_zero, List.set_cons_succ] at hbf
                    subst hbf
                    refine ops_done ?_
                    go_wp2
                    exact bodyPost_ret (v := .tuple #[.agg #[.bool (ngB (mkRat ((((numS 10 (cutA T)) * 10 ^ r.length + numS 10 r) : Nat) : Int) (10 ^ r.length * 100)).num), .slice A9 (digs 10000 (mkRat ((((numS 10 (cutA T)) * 10 ^ r.length + numS 10 r) : Nat) : Int) (10 ^ r.length * 100)).num.natAbs).length c9, .slice D9 (digs 10000 (mkRat ((((numS 10 (cutA T)) * 10 ^ r.length + numS 10 r) : Nat) : Int) (10 ^ r.length * 100)).den).length e9], .int .i64 0]) (by simp [results, Tryz.results7, go_sem, C0, C1, C2]) rfl (RetRd.ok (by rw [HR.out]; exact read_B2 HAO.out HSR.out HRO.out H47.out) rfl ⟨_, _, rfl, k9, d9⟩ f9 bb9)
              · have HRN := Lib.hid hR
                clear hR
                go_wp2_with fail
                refine (number_any _ (r) false _ (HCR.out ▸ (StrIs.mk T).from_ (c + 1)) (by omega) (.inr ⟨rfl, HRN.out⟩)).mono ?_
                rintro e w4_ ⟨vb, rfl, kb, bqb⟩
                replace BR0 := BR0.below bqb
                replace kn := kn.below bqb
                replace km := km.below bqb
                replace ka := ka.below bqb
                replace bb := bb.trans (bqb.mono bb.size)
                have hsz4 := bb.size
                obtain ⟨y0, y1, y2, z0, z1, z2⟩ := three BR0
                go_wp2
                exact bodyPost_ret (v := .tuple #[.agg #[.bool false, .slice none 0 0, .slice none 0 0], .int .i64 5]) (by simp [results, Tryz.results7, go_sem, y0, y1, y2]) rfl (RetRd.no (by rw [HR.out]; exact read_noB HAO.out HSR.out HRN.out) (by decide) rfl (((bb.setCell (Nat.le_refl _) _).setCell (Nat.le_refl _) _).setCell (Nat.le_refl _) _))
          · have HAN := Lib.hid hA
            clear hA
            go_wp2_with fail
            refine (number_any _ (cutA T) false _ (HCA.out ▸ (StrIs.mk T).to_ c) (by omega) (.inr ⟨rfl, HAN.out⟩)).mono ?_
            rintro e w3_ ⟨va, rfl, ka, bqa⟩
            replace BR0 := BR0.below bqa
            replace kn := kn.below bqa
            replace km := km.below bqa
            replace bb := bb.trans (bqa.mono bb.size)
            have hsz3 := bb.size
            obtain ⟨y0, y1, y2, z0, z1, z2⟩ := three BR0
            go_wp2
            exact bodyPost_ret (v := .tuple #[.agg #[.bool false, .slice none 0 0, .slice none 0 0], .int .i64 5]) (by simp [results, Tryz.results7, go_sem, y0, y1, y2]) rfl (RetRd.no (by rw [HR.out]; exact read_noA HAN.out) (by decide) rfl (((bb.setCell (Nat.le_refl _) _).setCell (Nat.le_refl _) _).setCell (Nat.le_refl _) _))
  · by_cases hne : 0 < l.length
    · have HR := Lib.hid (read_plain hp)
      have hle : 0 < l.length := hne
      have hi37 := last_no hne hp
      have hsb : l.length - 1 < (ByteArray.mk l.toArray).size := by rw [bytes_size]; omega
      have c37 : ((((ByteArray.mk l.toArray)[l.length - 1]'hsb).toNat : Int) == 37) = false := by rw [beq_eq_false_iff_ne]; exact hi37
      have h1l : 1 ≤ (l.length : Int) := by omega
      clear hi37 hne
      have HP := Lib.hid hp
      clear hp
      have sB0 := bb.size
      go_wp2
      go_loopw [5, 6] (fun v5 v6 wr => ∃ k c : Nat, k ≤ l.length ∧ Hid (c = k + (cutA (l.drop k)).length) ∧ c ≤ l.length ∧ Below w1.heap.size w1 wr ∧ v5 = .int .i64 (c : Int) ∧ v6 = .int .i64 ((k : Int) - 1)) (fun _ v6 _ => (intOf v6 + 1).toNat)
      case atStart => exact ⟨l.length, l.length, Nat.le_refl _, by show _ = _; rw [List.drop_length]; rfl, Nat.le_refl _, Below.refl _ _, rfl, rfl⟩
      case round =>
        obtain ⟨k, c, hk, HC, hcl, hbr, rfl, rfl⟩ := hrel
        by_cases hlt : 0 < k
        · obtain ⟨j, rfl⟩ : ∃ j, k = j + 1 := ⟨k - 1, by omega⟩
          have hj : j < l.length := by omega
          have hat : l[j]? = some (l[j]'hj) := List.getElem?_eq_getElem hj
          have hjb : j < (ByteArray.mk l.toArray).size := by rw [bytes_size]; exact hj
          by_cases hs : sepB (l[j]'hj) = true
          · have HC2 := Lib.hid (cut_sep hat hs)
            by_cases h47 : l[j]'hj = 47
            · have c1 : ((((ByteArray.mk l.toArray)[j]'hjb).toNat : Int) == 47) = true := by rw [show (ByteArray.mk l.toArray)[j]'hjb = l[j]'hj from rfl, h47]; rfl
              clear hat hs h47
              go_wp2
              go_roundw
              case rel => exact ⟨j, j, by omega, HC2, by omega, hbr, by go_num, by go_num⟩
              case measure => simp [intOf]
            · have h46 : l[j]'hj = 46 := by unfold sepB at hs; simpa [h47] using hs
              have c1 : ((((ByteArray.mk l.toArray)[j]'hjb).toNat : Int) == 47) = false := by rw [show (ByteArray.mk l.toArray)[j]'hjb = l[j]'hj from rfl, h46]; rfl
              have c2 : ((((ByteArray.mk l.toArray)[j]'hjb).toNat : Int) == 46) = true := by rw [show (ByteArray.mk l.toArray)[j]'hjb = l[j]'hj from rfl, h46]; rfl
              clear hat hs h47 h46
              go_wp2
              go_roundw
              case rel => exact ⟨j, j, by omega, HC2, by omega, hbr, by go_num, by go_num⟩
              case measure => simp [intOf]
          · have hs2 : sepB (l[j]'hj) = false := by simpa using hs
            have HC2 := Lib.hid (cut_go hat hs2 HC.out)
            have c1 : ((((ByteArray.mk l.toArray)[j]'hjb).toNat : Int) == 47) = false := by
              rw [show (ByteArray.mk l.toArray)[j]'hjb = l[j]'hj from rfl, beq_eq_false_iff_ne]
              intro h
              have : l[j]'hj = 47 := UInt8.toNat_inj.1 (by have : (47 : UInt8).toNat = 47 := rfl; omega)
              rw [this] at hs2; revert hs2; decide
            have c2 : ((((ByteArray.mk l.toArray)[j]'hjb).toNat : Int) == 46) = false := by
              rw [show (ByteArray.mk l.toArray)[j]'hjb = l[j]'hj from rfl, beq_eq_false_iff_ne]
              intro h
              have : l[j]'hj = 46 := UInt8.toNat_inj.1 (by have : (46 : UInt8).toNat = 46 := rfl; omega)
              rw [this] at hs2; revert hs2; decide
            clear hat hs hs2
            go_wp2
            go_roundw
            case rel => exact ⟨j, c, by omega, HC2, hcl, hbr, rfl, by go_num⟩
            case measure => simp [intOf]
        · skip
          replace BR0 := BR0.below hbr
          replace kn := kn.below hbr
          replace bb := bb.trans (hbr.mono bb.size)
          have hsz1 := bb.size
          have hc0 : c = (cutA l).length := by have := HC.out; rw [show k = 0 by omega, List.drop_zero] at this; omega
          have HCA : Hid (l.take c = cutA l) := by show _ = _; rw [hc0]; exact cut_take l
          have HCB : Hid (l.drop c = cutB l) := by show _ = _; rw [hc0]; exact cut_drop l
          have lcA : (cutA l).length ≤ 100 := by omega
          have hk0 : ¬ 0 < k := hlt
          clear hc0
          by_cases hA : okS 10 (cutA l)
          · have HAO := Lib.hid hA
            clear hA
            go_wp2_with fail
            refine (number_any _ (cutA l) true _ (HCA.out ▸ (StrIs.mk l).to_ c) (by omega) (.inl ⟨rfl, HAO.out⟩)).mono ?_
            rintro e w2_ ⟨va, rfl, ka, bqa⟩
            replace ka := ka rfl
            obtain ⟨Aa, ca, rfl, _⟩ := id ka
            replace BR0 := BR0.below bqa
            replace kn := kn.below bqa
            replace bb := bb.trans (bqa.mono bb.size)
            have hsz2 := bb.size
            have lx := numS_len (b := 10) (by omega) HAO.out
            have HLZ : Hid (lenZ (((numS 10 (cutA l)) : Nat) : Int) ≤ 30000) := by show _ ≤ _; rw [lenD]; omega
            by_cases hB : cutB l = []
            · have hcT : c = l.length := by have := congrArg List.length HCB.out; rw [hB, List.length_drop] at this; simp at this; omega
              have hcb : ((c : Int) == (l.length : Int)) = true := by rw [beq_iff_eq]; omega
              have HBN := Lib.hid hB
              clear hB hcT
              have HDN : Hid (1 ≠ 0) := by show _ ≠ _; omega
              have HLD : Hid ((digs 4294967296 1).length ≤ 30000) := by show _ ≤ _; exact Nat.le_trans (digs_len_le (k := 1) (by omega) (by omega)) (by omega)
              have sB := bb.size
              go_upto_region 14 with (fail)
              refine flowp 4 [Pd.eq (.slice Aa (digs 10000 (numS 10 (cutA l))).length ca), pr ((((numS 10 (cutA l)) : Nat) : Int)), Pd.eq (.slice An (digs 10000 1).length cn), ppf (mkRat (((numS 10 (cutA l)) : Nat) : Int) 1) w2_.heap.size] (by kernel_rfl) ?ob5 ?done5
              case ob5 =>
                refine And.intro (ob_move rfl (wt_none rfl) (ev_far rfl rfl) (fun _ _ h => h)) ?_
                refine And.intro (ob_build1b rfl (wt_none rfl) (ev_dep (j := 0) (by kernel_rfl) rfl rfl) (fun w2 u hb hu => by obtain rfl := hu; exact ⟨.agg #[.bool false, .slice Aa (digs 10000 (numS 10 (cutA l))).length ca], by kernel_rfl, isR_mk (ka.below hb) (Int.natAbs_natCast _) (ngB_of_pos (by omega)).symm⟩)) ?_
                refine And.intro (ob_move rfl (wt_none rfl) (ev_far rfl rfl) (fun _ _ h => h)) ?_
                refine And.intro (ob_call2 rfl Tryz.func30 (by kernel_rfl) (wt_none rfl) (ev_dep (j := 1) (by kernel_rfl) rfl rfl) (ev_dep (j := 2) (by kernel_rfl) rfl rfl) (fun w2 u0 u1 hb h0 h1 => by obtain rfl := h1; exact (rlow_any _ (((numS 10 (cutA l)) : Nat) : Int) _ 1 _ h0 (kn.below hb) HDN.out HLZ.out HLD.out).mono fun e w3 h => RetPF.pdf h hb.size)) ?_
                trivial
              case done5 =>
                refine fun w3 hb3 v0 h0 v1 h1 v2 h2 v3 h3 b hbf => ?_
                obtain rfl := h0; obtain rfl := h2
                have q1 := h1
                obtain ⟨q3, f3⟩ := h3
                simp only [Act.put, List.setIfInBounds_toArray, List.set_cons_zero, List.set_cons_succ] at hbf
                subst hbf
                replace BR0 := BR0.below hb3
                replace kn := kn.below hb3
                replace ka := ka.below hb3
                replace bb := bb.trans (hb3.mono bb.size)
                have hsz3 := bb.size
                have s_3 := sB
                obtain ⟨u3, t3, rfl, q3, d3⟩ := q3
                obtain ⟨A9, c9, rfl, _⟩ := id q3
                obtain ⟨D9, e9, rfl, _⟩ := id d3
                refine ops_store (i := 4) rfl rfl rfl rfl rfl rfl (cells := [.bool (ngB (mkRat (((numS 10 (cutA l)) : Nat) : Int) 1).num), .slice A9 (digs 10000 (mkRat (((numS 10 (cutA l)) : Nat) : Int) 1).num.natAbs).length c9, .slice D9 (digs 10000 (mkRat (((numS 10 (cutA l)) : Nat) : Int) 1).den).length e9]) rfl BR0 rfl (by kernel_rfl) (one3 rfl rfl rfl) fun w9 hg9 B9 => ?_
                have k9 := off q3 BR0 no_ints3 hg9
                have d9 := off d3 BR0 no_ints3 hg9
                have f9 := f3.mono (show w.heap.size ≤ _ from s_3)
                have bb9 := bb.trans ((Below.refl _ _).grown hg9 bb.size (fun g hg => by injection hg with hg; omega))
                obtain ⟨C0, C1, C2, _, _, _⟩ := three B9
                refine ops_assign (i := 5) (.int .i64 0) rfl rfl rfl rfl rfl fun b hbf => ?_
                simp only [Act.put, List.setIfInBounds_toArray, List.set_cons_zero, List.set_cons_succ] at hbf
                subst hbf
                refine ops_done ?_
                go_wp2
                exact bodyPost_ret (v := .tuple #[.agg #[.bool (ngB (mkRat (((numS 10 (cutA l)) : Nat) : Int) 1).num), .slice A9 (digs 10000 (mkRat (((numS 10 (cutA l)) : Nat) : Int) 1).num.natAbs).length c9, .slice D9 (digs 10000 (mkRat (((numS 10 (cutA l)) : Nat) : Int) 1).den).length e9], .int .i64 0]) (by simp [results, Tryz.results7, go_sem, C0, C1, C2]) rfl (RetRd.ok (by rw [HR.out]; exact read_B0 HAO.out HBN.out) rfl ⟨_, _, rfl, k9, d9⟩ f9 bb9)
            · obtain ⟨s, r, hsr⟩ : ∃ s r, cutB l = s :: r := by
                cases h : cutB l with
                | nil => exact absurd h hB
                | cons s r => exact ⟨s, r, rfl⟩
              clear hB
              have hdr := HCB.out
              rw [hsr] at hdr
              have hcT : c < l.length := by have := congrArg List.length hdr; rw [List.length_drop] at this; simp at this; omega
              have hcb : ((c : Int) == (l.length : Int)) = false := by rw [beq_eq_false_iff_ne]; omega
              have hcs : l[c]'hcT = s ∧ l.drop (c + 1) = r := by rw [List.drop_eq_getElem_cons hcT] at hdr; injection hdr with h1 h2; exact ⟨h1, h2⟩
              have HSR := Lib.hid hsr
              have HCR := Lib.hid hcs.2
              have HCS := Lib.hid hcs.1
              have hrl : r.length + c + 1 = l.length := by have := congrArg List.length hcs.2; rw [List.length_drop] at this; omega
              have HSE : Hid (s = 47 ∨ s = 46) := Lib.hid (cutB_head hsr)
              clear hsr hdr hcs
              by_cases hR : okS 10 r
              · have HRO := Lib.hid hR
                clear hR
                go_wp2_with fail
                refine (number_any _ (r) true _ (HCR.out ▸ (StrIs.mk l).from_ (c + 1)) (by omega) (.inl ⟨rfl, HRO.out⟩)).mono ?_
                rintro e w3_ ⟨vb, rfl, kb, bqb⟩
                replace kb := kb rfl
                obtain ⟨Ab, cb, rfl, _⟩ := id kb
                replace BR0 := BR0.below bqb
                replace kn := kn.below bqb
                replace ka := ka.below bqb
                replace bb := bb.trans (bqb.mono bb.size)
                have hsz3 := bb.size
                have ly := numS_len (b := 10) (by omega) HRO.out
                have hcS : c < (ByteArray.mk l.toArray).size := by rw [bytes_size]; exact hcT
                by_cases h47 : s = 47
                · have c47 : ((((ByteArray.mk l.toArray)[c]'hcS).toNat : Int) == 47) = true := by rw [show (ByteArray.mk l.toArray)[c]'hcS = l[c]'hcT from rfl, HCS.out, h47]; rfl
                  have H47 := Lib.hid h47
                  clear h47
                  by_cases hy : numS 10 r = 0
                  · have hyl : (digs 10000 (numS 10 r)).length = 0 := rlen0 hy
                    have hyb : ((((digs 10000 (numS 10 r)).length : Nat) : Int) == 0) = true := by rw [hyl]; rfl
                    have HY := Lib.hid hy
                    clear hy hyl
                    obtain ⟨y0, y1, y2, z0, z1, z2⟩ := three BR0
                    go_wp2
                    exact bodyPost_ret (v := .tuple #[.agg #[.bool false, .slice none 0 0, .slice none 0 0], .int .i64 3]) (by simp [results, Tryz.results7, go_sem, y0, y1, y2]) rfl (RetRd.no (by rw [HR.out]; exact read_B3 HAO.out HSR.out HRO.out H47.out HY.out) (by decide) rfl (((bb.setCell (Nat.le_refl _) _).setCell (Nat.le_refl _) _).setCell (Nat.le_refl _) _))
                  · have hyl : 0 < (digs 10000 (numS 10 r)).length := rlenp (by omega)
                    have hyb : ((((digs 10000 (numS 10 r)).length : Nat) : Int) == 0) = false := by rw [beq_eq_false_iff_ne]; omega
                    have HY := Lib.hid hy
                    have HDN : Hid (numS 10 r * 1 ≠ 0) := Nat.mul_ne_zero hy (by omega)
                    have HLD : Hid ((digs 4294967296 (numS 10 r * 1)).length ≤ 30000) := by show _ ≤ _; have h1 := mul_len (numS 10 r) 1; have h2 : (digs 4294967296 1).length ≤ 1 := digs_len_le (k := 1) (by omega) (by omega); omega
                    have HB1 : Hid ((digs 10000 (numS 10 r)).length ≤ 1000000) := by show _ ≤ _; have := dec_le (numS 10 r); omega
                    have HB2 : Hid ((digs 10000 1).length ≤ 1000000) := by show _ ≤ _; exact Nat.le_trans (digs_len_le (k := 1) (by omega) (by omega)) (by omega)
                    clear hy
                    have sB := bb.size
                    go_upto_region 21 with (fail)
                    refine flowp 6 [Pd.eq (.slice Aa (digs 10000 (numS 10 (cutA l))).length ca), pr ((((numS 10 (cutA l)) : Nat) : Int)), Pd.eq (.slice Ab (digs 10000 (numS 10 (r))).length cb), Pd.eq (.slice An (digs 10000 1).length cn), ps .i64 (digs 10000 (numS 10 r * 1)) w3_.heap.size, ppf (mkRat (((numS 10 (cutA l)) : Nat) : Int) (numS 10 r * 1)) w3_.heap.size] (by kernel_rfl) ?ob6 ?done6
                    case ob6 =>
                      refine And.intro (ob_move rfl (wt_none rfl) (ev_far rfl rfl) (fun _ _ h => h)) ?_
                      refine And.intro (ob_build1b rfl (wt_none rfl) (ev_dep (j := 0) (by kernel_rfl) rfl rfl) (fun w2 u hb hu => by obtain rfl := hu; exact ⟨.agg #[.bool false, .slice Aa (digs 10000 (numS 10 (cutA l))).length ca], by kernel_rfl, isR_mk (ka.below hb) (Int.natAbs_natCast _) (ngB_of_pos (by omega)).symm⟩)) ?_
                      refine And.intro (ob_move rfl (wt_none rfl) (ev_far rfl rfl) (fun _ _ h => h)) ?_
                      refine And.intro (ob_move rfl (wt_none rfl) (ev_far rfl rfl) (fun _ _ h => h)) ?_
                      refine And.intro (ob_call2 rfl Tryz.func31 (by kernel_rfl) (wt_none rfl) (ev_dep (j := 2) (by kernel_rfl) rfl rfl) (ev_dep (j := 3) (by kernel_rfl) rfl rfl) (fun w2 u0 u1 hb h0 h1 => by obtain rfl := h0; obtain rfl := h1; exact (refMul_any _ _ (numS 10 r) 1 _ (kb.below hb) (kn.below hb) HB1.out HB2.out).mono fun e w3 h => RetS.pd h hb.size)) ?_
                      refine And.intro (ob_call2 rfl Tryz.func30 (by kernel_rfl) (wt_none rfl) (ev_dep (j := 1) (by kernel_rfl) rfl rfl) (ev_dep (j := 4) (by kernel_rfl) rfl rfl) (fun w2 u0 u1 hb h0 h1 => by exact (rlow_any _ (((numS 10 (cutA l)) : Nat) : Int) _ (numS 10 r * 1) _ h0 h1.1 HDN.out HLZ.out HLD.out).mono fun e w3 h => RetPF.pdf h hb.size)) ?_
                      trivial
                    case done6 =>
                      refine fun w4 hb4 v0 h0 v1 h1 v2 h2 v3 h3 v4 h4 v5 h5 b hbf => ?_
                      obtain rfl := h0; obtain rfl := h2; obtain rfl := h3
                      have q1 := h1
                      obtain ⟨q4, f4⟩ := h4
                      obtain ⟨q5, f5⟩ := h5
                      simp only [Act.put, List.setIfInBounds_toArray, List.set_cons_zero, List.set_cons_succ] at hbf
                      subst hbf
                      replace BR0 := BR0.below hb4
                      replace kn := kn.below hb4
                      replace ka := ka.below hb4
                      replace kb := kb.below hb4
                      replace bb := bb.trans (hb4.mono bb.size)
                      have hsz4 := bb.size
                      have s_4 := sB
                      have s_5 := sB
                      obtain ⟨u5, t5, rfl, q5, d5⟩ := q5
                      obtain ⟨A9, c9, rfl, _⟩ := id q5
                      obtain ⟨D9, e9, rfl, _⟩ := id d5
                      refine ops_store (i := 6) rfl rfl rfl rfl rfl rfl (cells := [.bool (ngB (mkRat (((numS 10 (cutA l)) : Nat) : Int) (numS 10 r * 1)).num), .slice A9 (digs 10000 (mkRat (((numS 10 (cutA l)) : Nat) : Int) (numS 10 r * 1)).num.natAbs).length c9, .slice D9 (digs 10000 (mkRat (((numS 10 (cutA l)) : Nat) : Int) (numS 10 r * 1)).den).length e9]) rfl BR0 rfl (by kernel_rfl) (one3 rfl rfl rfl) fun w9 hg9 B9 => ?_
                      have k9 := off q5 BR0 no_ints3 hg9
                      have d9 := off d5 BR0 no_ints3 hg9
                      have f9 := f5.mono (show w.heap.size ≤ _ from s_5)
                      have bb9 := bb.trans ((Below.refl _ _).grown hg9 bb.size (fun g hg => by injection hg with hg; omega))
                      obtain ⟨C0, C1, C2, _, _, _⟩ := three B9
                      refine ops_assign (i := 7) (.int .i64 0) rfl rfl rfl rfl rfl fun b hbf => ?_
                      simp only [Act.put, List.setIfInBounds_toArray, List.set_cons_zero, List.set_cons_succ] at hbf
                      subst hbf
                      refine ops_done ?_
                      go_wp2
                      exact bodyPost_ret (v := .tuple #[.agg #[.bool (ngB (mkRat (((numS 10 (cutA l)) : Nat) : Int) (numS 10 r * 1)).num), .slice A9 (digs 10000 (mkRat (((numS 10 (cutA l)) : Nat) : Int) (numS 10 r * 1)).num.natAbs).length c9, .slice D9 (digs 10000 (mkRat (((numS 10 (cutA l)) : Nat) : Int) (numS 10 r * 1)).den).length e9], .int .i64 0]) (by simp [results, Tryz.results7, go_sem, C0, C1, C2]) rfl (RetRd.ok (by rw [HR.out]; exact read_B1 HAO.out HSR.out HRO.out H47.out HY.out) rfl ⟨_, _, rfl, k9, d9⟩ f9 bb9)
                · have c47 : ((((ByteArray.mk l.toArray)[c]'hcS).toNat : Int) == 47) = false := by
                    rw [show (ByteArray.mk l.toArray)[c]'hcS = l[c]'hcT from rfl, HCS.out]
                    rcases HSE.out with h | h
                    · exact absurd h h47
                    · rw [h]; rfl
                  have H47 := Lib.hid h47
                  clear h47
                  have HPL : Hid ((l.length : Int) - (c : Int) - 1 = ((r.length : Nat) : Int)) := by show _ = _; omega
                  go_wp2_with fail
                  refine (ten_any _ r.length _ HPL.out (by omega)).mono ?_
                  rintro e wp ⟨vp, rfl, kp, fp, bp⟩
                  obtain ⟨Ap, cp, rfl, _⟩ := id kp
                  replace BR0 := BR0.below bp
                  replace kn := kn.below bp
                  replace ka := ka.below bp
                  replace kb := kb.below bp
                  replace bb := bb.trans (bp.mono bb.size)
                  have hsz4 := bb.size
                  have lten := ten_len r.length
                  have lm1 := mul_len (numS 10 (cutA l)) (10 ^ r.length)
                  have lm2 := mul_len (10 ^ r.length) 1
                  have la1 := add_len ((numS 10 (cutA l)) * 10 ^ r.length) (numS 10 r)
                  have ln1 : (digs 4294967296 1).length ≤ 1 := digs_len_le (k := 1) (by omega) (by omega)
                  have HLZ : Hid (lenZ ((((numS 10 (cutA l)) * 10 ^ r.length + numS 10 r) : Nat) : Int) ≤ 30000) := by show _ ≤ _; rw [lenD]; omega
                  have HDN : Hid (10 ^ r.length * 1 ≠ 0) := Nat.mul_ne_zero (by have : 0 < 10 ^ r.length := Nat.pow_pos (by omega); omega) (by omega)
                  have HLD : Hid ((digs 4294967296 (10 ^ r.length * 1)).length ≤ 30000) := by show _ ≤ _; omega
                  have HA1 : Hid ((digs 10000 (numS 10 (cutA l))).length ≤ 1000000) := by show _ ≤ _; have := dec_le (numS 10 (cutA l)); omega
                  have HA2 : Hid ((digs 10000 (10 ^ r.length)).length ≤ 1000000) := by show _ ≤ _; have := dec_le (10 ^ r.length); omega
                  have HA3 : Hid ((digs 10000 ((numS 10 (cutA l)) * 10 ^ r.length)).length ≤ 1000000) := by show _ ≤ _; have := dec_le ((numS 10 (cutA l)) * 10 ^ r.length); omega
                  have HA4 : Hid ((digs 10000 (numS 10 r)).length ≤ 1000000) := by show _ ≤ _; have := dec_le (numS 10 r); omega
                  have HA5 : Hid ((digs 10000 1).length ≤ 1000000) := by show _ ≤ _; have := dec_le 1; omega
                  have sB := bb.size
                  go_upto_region 23 with (fail)
                  refine flowp 10 [Pd.eq (.slice Aa (digs 10000 (numS 10 (cutA l))).length ca), Pd.eq (.slice Ap (digs 10000 (10 ^ r.length)).length cp), ps .i64 (digs 10000 ((numS 10 (cutA l)) * (10 ^ r.length))) wp.heap.size, Pd.eq (.slice Ab (digs 10000 (numS 10 (r))).length cb), ps .i64 (digs 10000 ((numS 10 (cutA l)) * 10 ^ r.length + numS 10 r)) wp.heap.size, pr (((((numS 10 (cutA l)) * 10 ^ r.length + numS 10 r) : Nat) : Int)), Pd.eq (.slice Ap (digs 10000 (10 ^ r.length)).length cp), Pd.eq (.slice An (digs 10000 1).length cn), ps .i64 (digs 10000 ((10 ^ r.length) * 1)) wp.heap.size, ppf (mkRat ((((numS 10 (cutA l)) * 10 ^ r.length + numS 10 r) : Nat) : Int) (10 ^ r.length * 1)) wp.heap.size] (by kernel_rfl) ?ob7 ?done7
                  case ob7 =>
                    refine And.intro (ob_move rfl (wt_none rfl) (ev_far rfl rfl) (fun _ _ h => h)) ?_
                    refine And.intro (ob_move rfl (wt_none rfl) (ev_far rfl rfl) (fun _ _ h => h)) ?_
                    refine And.intro (ob_call2 rfl Tryz.func31 (by kernel_rfl) (wt_none rfl) (ev_dep (j := 0) (by kernel_rfl) rfl rfl) (ev_dep (j := 1) (by kernel_rfl) rfl rfl) (fun w2 u0 u1 hb h0 h1 => by obtain rfl := h0; obtain rfl := h1; exact (refMul_any _ _ (numS 10 (cutA l)) (10 ^ r.length) _ (ka.below hb) (kp.below hb) HA1.out HA2.out).mono fun e w3 h => RetS.pd h hb.size)) ?_
                    refine And.intro (ob_move rfl (wt_none rfl) (ev_far rfl rfl) (fun _ _ h => h)) ?_
                    refine And.intro (ob_call2 rfl Tryz.func33 (by kernel_rfl) (wt_none rfl) (ev_dep (j := 2) (by kernel_rfl) rfl rfl) (ev_dep (j := 3) (by kernel_rfl) rfl rfl) (fun w2 u0 u1 hb h0 h1 => by obtain rfl := h1; exact (refAdd_any _ _ ((numS 10 (cutA l)) * 10 ^ r.length) (numS 10 r) _ h0.1 (kb.below hb) HA3.out HA4.out).mono fun e w3 h => RetS.pd h hb.size)) ?_
                    refine And.intro (ob_build1b rfl (wt_none rfl) (ev_dep (j := 4) (by kernel_rfl) rfl rfl) (fun w2 u hb hu => by obtain ⟨A7, c7, rfl, _⟩ := id hu.1; exact ⟨.agg #[.bool false, .slice A7 (digs 10000 (((numS 10 (cutA l)) * 10 ^ r.length + numS 10 r))).length c7], by kernel_rfl, isR_mk hu.1 (Int.natAbs_natCast _) (ngB_of_pos (by omega)).symm⟩)) ?_
                    refine And.intro (ob_move rfl (wt_none rfl) (ev_far rfl rfl) (fun _ _ h => h)) ?_
                    refine And.intro (ob_move rfl (wt_none rfl) (ev_far rfl rfl) (fun _ _ h => h)) ?_
                    refine And.intro (ob_call2 rfl Tryz.func31 (by kernel_rfl) (wt_none rfl) (ev_dep (j := 6) (by kernel_rfl) rfl rfl) (ev_dep (j := 7) (by kernel_rfl) rfl rfl) (fun w2 u0 u1 hb h0 h1 => by obtain rfl := h0; obtain rfl := h1; exact (refMul_any _ _ (10 ^ r.length) 1 _ (kp.below hb) (kn.below hb) HA2.out HA5.out).mono fun e w3 h => RetS.pd h hb.size)) ?_
                    refine And.intro (ob_call2 rfl Tryz.func30 (by kernel_rfl) (wt_none rfl) (ev_dep (j := 5) (by kernel_rfl) rfl rfl) (ev_dep (j := 8) (by kernel_rfl) rfl rfl) (fun w2 u0 u1 hb h0 h1 => by exact (rlow_any _ ((((numS 10 (cutA l)) * 10 ^ r.length + numS 10 r) : Nat) : Int) _ (10 ^ r.length * 1) _ h0 h1.1 HDN.out HLZ.out HLD.out).mono fun e w3 h => RetPF.pdf h hb.size)) ?_
                    trivial
                  case done7 =>
                    refine fun w5 hb5 v0 h0 v1 h1 v2 h2 v3 h3 v4 h4 v5 h5 v6 h6 v7 h7 v8 h8 v9 h9 b hbf => ?_
                    obtain rfl := h0; obtain rfl := h1; obtain rfl := h3; obtain rfl := h6; obtain rfl := h7
                    obtain ⟨q2, f2⟩ := h2
                    obtain ⟨q4, f4⟩ := h4
                    have q5 := h5
                    obtain ⟨q8, f8⟩ := h8
                    obtain ⟨q9, f9⟩ := h9
                    simp only [Act.put, List.setIfInBounds_toArray, List.set_cons_zero, List.set_cons_succ] at hbf
                    subst hbf
                    replace BR0 := BR0.below hb5
                    replace kn := kn.below hb5
                    replace ka := ka.below hb5
                    replace kb := kb.below hb5
                    replace kp := kp.below hb5
                    replace bb := bb.trans (hb5.mono bb.size)
                    have hsz5 := bb.size
                    have s_2 := sB
                    have s_4 := sB
                    have s_8 := sB
                    have s_9 := sB
                    obtain ⟨u9, t9, rfl, q9, d9⟩ := q9
                    obtain ⟨A9, c9, rfl, _⟩ := id q9
                    obtain ⟨D9, e9, rfl, _⟩ := id d9
                    refine ops_store (i := 10) rfl rfl rfl rfl rfl rfl (cells := [.bool (ngB (mkRat ((((numS 10 (cutA l)) * 10 ^ r.length + numS 10 r) : Nat) : Int) (10 ^ r.length * 1)).num), .slice A9 (digs 10000 (mkRat ((((numS 10 (cutA l)) * 10 ^ r.length + numS 10 r) : Nat) : Int) (10 ^ r.length * 1)).num.natAbs).length c9, .slice D9 (digs 10000 (mkRat ((((numS 10 (cutA l)) * 10 ^ r.length + numS 10 r) : Nat) : Int) (10 ^ r.length * 1)).den).length e9]) rfl BR0 rfl (by kernel_rfl) (one3 rfl rfl rfl) fun w9 hg9 B9 => ?_
                    have k9 := off q9 BR0 no_ints3 hg9
                    have d9 := off d9 BR0 no_ints3 hg9
                    have f9 := f9.mono (show w.heap.size ≤ _ from s_9)
                    have bb9 := bb.trans ((Below.refl _ _).grown hg9 bb.size (fun g hg => by injection hg with hg; omega))
                    obtain ⟨C0, C1, C2, _, _, _⟩ := three B9
                    refine ops_assign (i := 11) (.int .i64 0) rfl rfl rfl rfl rfl fun b hbf => ?_
                    simp only [Act.put, List.setIfInBounds_toArray, List.set_cons_zero, List.set_cons_succ] at hbf
                    subst hbf
                    refine ops_done ?_
                    go_wp2
                    exact bodyPost_ret (v := .tuple #[.agg #[.bool (ngB (mkRat ((((numS 10 (cutA l)) * 10 ^ r.length + numS 10 r) : Nat) : Int) (10 ^ r.length * 1)).num), .slice A9 (digs 10000 (mkRat ((((numS 10 (cutA l)) * 10 ^ r.length + numS 10 r) : Nat) : Int) (10 ^ r.length * 1)).num.natAbs).length c9, .slice D9 (digs 10000 (mkRat ((((numS 10 (cutA l)) * 10 ^ r.length + numS 10 r) : Nat) : Int) (10 ^ r.length * 1)).den).length e9], .int .i64 0]) (by simp [results, Tryz.results7, go_sem, C0, C1, C2]) rfl (RetRd.ok (by rw [HR.out]; exact read_B2 HAO.out HSR.out HRO.out H47.out) rfl ⟨_, _, rfl, k9, d9⟩ f9 bb9)
              · have HRN := Lib.hid hR
                clear hR
                go_wp2_with fail
                refine (number_any _ (r) false _ (HCR.out ▸ (StrIs.mk l).from_ (c + 1)) (by omega) (.inr ⟨rfl, HRN.out⟩)).mono ?_
                rintro e w3_ ⟨vb, rfl, kb, bqb⟩
                replace BR0 := BR0.below bqb
                replace kn := kn.below bqb
                replace ka := ka.below bqb
                replace bb := bb.trans (bqb.mono bb.size)
                have hsz3 := bb.size
                obtain ⟨y0, y1, y2, z0, z1, z2⟩ := three BR0
                go_wp2
                exact bodyPost_ret (v := .tuple #[.agg #[.bool false, .slice none 0 0, .slice none 0 0], .int .i64 5]) (by simp [results, Tryz.results7, go_sem, y0, y1, y2]) rfl (RetRd.no (by rw [HR.out]; exact read_noB HAO.out HSR.out HRN.out) (by decide) rfl (((bb.setCell (Nat.le_refl _) _).setCell (Nat.le_refl _) _).setCell (Nat.le_refl _) _))
          · have HAN := Lib.hid hA
            clear hA
            go_wp2_with fail
            refine (number_any _ (cutA l) false _ (HCA.out ▸ (StrIs.mk l).to_ c) (by omega) (.inr ⟨rfl, HAN.out⟩)).mono ?_
            rintro e w2_ ⟨va, rfl, ka, bqa⟩
            replace BR0 := BR0.below bqa
            replace kn := kn.below bqa
            replace bb := bb.trans (bqa.mono bb.size)
            have hsz2 := bb.size
            obtain ⟨y0, y1, y2, z0, z1, z2⟩ := three BR0
            go_wp2
            exact bodyPost_ret (v := .tuple #[.agg #[.bool false, .slice none 0 0, .slice none 0 0], .int .i64 5]) (by simp [results, Tryz.results7, go_sem, y0, y1, y2]) rfl (RetRd.no (by rw [HR.out]; exact read_noA HAN.out) (by decide) rfl (((bb.setCell (Nat.le_refl _) _).setCell (Nat.le_refl _) _).setCell (Nat.le_refl _) _))
    · have HR := Lib.hid (read_plain hp)
      have HP := Lib.hid hp
      clear hp
      have sB0 := bb.size
      go_wp2
      go_loopw [5, 6] (fun v5 v6 wr => ∃ k c : Nat, k ≤ l.length ∧ Hid (c = k + (cutA (l.drop k)).length) ∧ c ≤ l.length ∧ Below w1.heap.size w1 wr ∧ v5 = .int .i64 (c : Int) ∧ v6 = .int .i64 ((k : Int) - 1)) (fun _ v6 _ => (intOf v6 + 1).toNat)
      case atStart => exact ⟨l.length, l.length, Nat.le_refl _, by show _ = _; rw [List.drop_length]; rfl, Nat.le_refl _, Below.refl _ _, rfl, rfl⟩
      case round =>
        obtain ⟨k, c, hk, HC, hcl, hbr, rfl, rfl⟩ := hrel
        by_cases hlt : 0 < k
        · obtain ⟨j, rfl⟩ : ∃ j, k = j + 1 := ⟨k - 1, by omega⟩
          have hj : j < l.length := by omega
          have hat : l[j]? = some (l[j]'hj) := List.getElem?_eq_getElem hj
          have hjb : j < (ByteArray.mk l.toArray).size := by rw [bytes_size]; exact hj
          by_cases hs : sepB (l[j]'hj) = true
          · have HC2 := Lib.hid (cut_sep hat hs)
            by_cases h47 : l[j]'hj = 47
            · have c1 : ((((ByteArray.mk l.toArray)[j]'hjb).toNat : Int) == 47) = true := by rw [show (ByteArray.mk l.toArray)[j]'hjb = l[j]'hj from rfl, h47]; rfl
              clear hat hs h47
              go_wp2
              go_roundw
              case rel => exact ⟨j, j, by omega, HC2, by omega, hbr, by go_num, by go_num⟩
              case measure => simp [intOf]
            · have h46 : l[j]'hj = 46 := by unfold sepB at hs; simpa [h47] using hs
              have c1 : ((((ByteArray.mk l.toArray)[j]'hjb).toNat : Int) == 47) = false := by rw [show (ByteArray.mk l.toArray)[j]'hjb = l[j]'hj from rfl, h46]; rfl
              have c2 : ((((ByteArray.mk l.toArray)[j]'hjb).toNat : Int) == 46) = true := by rw [show (ByteArray.mk l.toArray)[j]'hjb = l[j]'hj from rfl, h46]; rfl
              clear hat hs h47 h46
              go_wp2
              go_roundw
              case rel => exact ⟨j, j, by omega, HC2, by omega, hbr, by go_num, by go_num⟩
              case measure => simp [intOf]
          · have hs2 : sepB (l[j]'hj) = false := by simpa using hs
            have HC2 := Lib.hid (cut_go hat hs2 HC.out)
            have c1 : ((((ByteArray.mk l.toArray)[j]'hjb).toNat : Int) == 47) = false := by
              rw [show (ByteArray.mk l.toArray)[j]'hjb = l[j]'hj from rfl, beq_eq_false_iff_ne]
              intro h
              have : l[j]'hj = 47 := UInt8.toNat_inj.1 (by have : (47 : UInt8).toNat = 47 := rfl; omega)
              rw [this] at hs2; revert hs2; decide
            have c2 : ((((ByteArray.mk l.toArray)[j]'hjb).toNat : Int) == 46) = false := by
              rw [show (ByteArray.mk l.toArray)[j]'hjb = l[j]'hj from rfl, beq_eq_false_iff_ne]
              intro h
              have : l[j]'hj = 46 := UInt8.toNat_inj.1 (by have : (46 : UInt8).toNat = 46 := rfl; omega)
              rw [this] at hs2; revert hs2; decide
            clear hat hs hs2
            go_wp2
            go_roundw
            case rel => exact ⟨j, c, by omega, HC2, hcl, hbr, rfl, by go_num⟩
            case measure => simp [intOf]
        · skip
          replace BR0 := BR0.below hbr
          replace kn := kn.below hbr
          replace bb := bb.trans (hbr.mono bb.size)
          have hsz1 := bb.size
          have hc0 : c = (cutA l).length := by have := HC.out; rw [show k = 0 by omega, List.drop_zero] at this; omega
          have HCA : Hid (l.take c = cutA l) := by show _ = _; rw [hc0]; exact cut_take l
          have HCB : Hid (l.drop c = cutB l) := by show _ = _; rw [hc0]; exact cut_drop l
          have lcA : (cutA l).length ≤ 100 := by omega
          have hk0 : ¬ 0 < k := hlt
          clear hc0
          by_cases hA : okS 10 (cutA l)
          · exact absurd (List.length_eq_zero_iff.1 (by have := cut_len (l := l); omega)) hA.1
          · have HAN := Lib.hid hA
            clear hA
            go_wp2_with fail
            refine (number_any _ (cutA l) false _ (HCA.out ▸ (StrIs.mk l).to_ c) (by omega) (.inr ⟨rfl, HAN.out⟩)).mono ?_
            rintro e w2_ ⟨va, rfl, ka, bqa⟩
            replace BR0 := BR0.below bqa
            replace kn := kn.below bqa
            replace bb := bb.trans (bqa.mono bb.size)
            have hsz2 := bb.size
            obtain ⟨y0, y1, y2, z0, z1, z2⟩ := three BR0
            go_wp2
            exact bodyPost_ret (v := .tuple #[.agg #[.bool false, .slice none 0 0, .slice none 0 0], .int .i64 5]) (by simp [results, Tryz.results7, go_sem, y0, y1, y2]) rfl (RetRd.no (by rw [HR.out]; exact read_noA HAN.out) (by decide) rfl (((bb.setCell (Nat.le_refl _) _).setCell (Nat.le_refl _) _).setCell (Nat.le_refl _) _))
end Go.Proofs.YtpcllhdfalebbaaGreatDoor.rto
namespace Go.Proofs.YtpcllhdfalebbaaGreatDoor.rat
open Go.RowKit Go.Proofs.YtpcllhdfalebbaaGreatDoor.num Go.Proofs.YtpcllhdfalebbaaGreatDoor.mem Go.Proofs.YtpcllhdfalebbaaGreatDoor.nat Go.Proofs.YtpcllhdfalebbaaGreatDoor.txt Go.Proofs.YtpcllhdfalebbaaGreatDoor.str Go.Proofs.YtpcllhdfalebbaaGreatDoor.flow Go.Proofs.YtpcllhdfalebbaaGreatDoor.whl
set_option linter.unusedVariables false
set_option maxHeartbeats 3200000 in
set_option maxRecDepth 100000 in
theorem mul8_any (a0 : Value) (x : Rat) (a1 : Value) (y : Rat) (w : World) (h0 : IsQ w a0 x) (h1 : IsQ w a1 y) (hl : lenQ x 10000) (hl2 : lenQ y 10000) :
    Calls Tryz.prog 50 #[a0, a1] w (RetQ (x * y) w) := by
  obtain ⟨u0, t0, rfl, s0, r0⟩ := h0
  obtain ⟨A0, c0, rfl, _⟩ := id s0
  obtain ⟨D0, e0, rfl, _⟩ := id r0
  obtain ⟨u1, t1, rfl, s1, r1⟩ := h1
  obtain ⟨A1, c1, rfl, _⟩ := id s1
  obtain ⟨D1, e1, rfl, _⟩ := id r1
  obtain ⟨U, hU⟩ : ∃ U, U = (mkRat x.num y.den).num := ⟨_, rfl⟩
  obtain ⟨L, hL⟩ : ∃ L, L = (mkRat x.num y.den).den := ⟨_, rfl⟩
  obtain ⟨V, hV⟩ : ∃ V, V = (mkRat y.num x.den).num := ⟨_, rfl⟩
  obtain ⟨M, hM⟩ : ∃ M, M = (mkRat y.num x.den).den := ⟨_, rfl⟩
  obtain ⟨Q, hQ⟩ : ∃ Q, Q = x * y := ⟨_, rfl⟩
  have HQ0 : Hid (x * y = Q) := hQ.symm
  have HP := mul_parts x y
  rw [← hU, ← hL, ← hV, ← hM, ← hQ] at HP
  have HQN : Hid (U * V = (Q).num) := HP.1.symm
  have HQD : Hid (M * L = (Q).den) := HP.2.symm
  have lx1 := hl.1
  have lx2 := hl.2
  have ly1 := hl2.1
  have ly2 := hl2.2
  have HX : Hid (x.den ≠ 0) := x.den_nz
  have HY : Hid (y.den ≠ 0) := y.den_nz
  have lU : lenQ (mkRat x.num y.den) 10000 := lenQ_mk HY.out lx1 ly2
  have lV : lenQ (mkRat y.num x.den) 10000 := lenQ_mk HX.out ly1 lx2
  unfold lenQ at lU lV
  rw [← hU, ← hL] at lU
  rw [← hV, ← hM] at lV
  have HU := Lib.hid hU
  have HL := Lib.hid hL
  have HV := Lib.hid hV
  have HM := Lib.hid hM
  clear hU hL hV hM hQ HP
  go_enter Tryz.func50, Tryz.ntmps50
  go_upto_region 1 with (fail)
  obtain ⟨wx, hwx, bb, B0, B1, BR0, hsz⟩ := vars3 w 27 27 27 #[.bool (ngB (x).num), .slice A0 (digs 4294967296 (x).num.natAbs).length c0, .slice D0 (digs 4294967296 (x).den).length e0] #[.bool (ngB (y).num), .slice A1 (digs 4294967296 (y).num.natAbs).length c1, .slice D1 (digs 4294967296 (y).den).length e1] #[.bool false, .slice none 0 0, .slice none 0 0]
  rw [hwx]
  clear hwx
  have k0s := s0.below bb
  have k0d := r0.below bb
  have k0z : IsZ wx (.agg #[.bool (ngB (x).num), .slice A0 (digs 4294967296 (x).num.natAbs).length c0]) (x).num := ⟨_, rfl, k0s⟩
  have k0 : IsQ wx (.agg #[.bool (ngB (x).num), .slice A0 (digs 4294967296 (x).num.natAbs).length c0, .slice D0 (digs 4294967296 (x).den).length e0]) (x) := ⟨_, _, rfl, k0s, k0d⟩
  have k1s := s1.below bb
  have k1d := r1.below bb
  have k1z : IsZ wx (.agg #[.bool (ngB (y).num), .slice A1 (digs 4294967296 (y).num.natAbs).length c1]) (y).num := ⟨_, rfl, k1s⟩
  have k1 : IsQ wx (.agg #[.bool (ngB (y).num), .slice A1 (digs 4294967296 (y).num.natAbs).length c1, .slice D1 (digs 4294967296 (y).den).length e1]) (y) := ⟨_, _, rfl, k1s, k1d⟩
  have hsz0 := bb.size
  have sB := bb.size
  have lt0_2 := Blk.lt B0
  have lt0_3 := Blk.lt B1
  have lt0_4 := Blk.lt BR0
  refine flowp 9 [Pd.eq (.pointer (some ⟨w.heap.size, 0, none⟩)), Pd.eq (.agg #[.bool (ngB (x).num), .slice A0 (digs 4294967296 (x).num.natAbs).length c0]), Pd.eq (.pointer (some ⟨w.heap.size + 1, 2, none⟩)), Pd.eq (.slice D1 (digs 4294967296 (y).den).length e1), pzs (U) (L) wx.heap.size, pzs (U) (L) wx.heap.size, pz (U) wx.heap.size, ps .u64 (digs 4294967296 L) wx.heap.size, pn 25 #[.bool false, .slice none 0 0] wx.heap.size] (by kernel_rfl) ?ob28 ?done28
  case ob28 =>
    refine And.intro (ob_fieldAddr rfl (wt_none rfl) (ev_far rfl rfl) (fun _ => by kernel_rfl) (fun _ => rfl)) ?_
    refine And.intro (ob_load rfl (wt_none rfl) (ev_dep (j := 0) (by kernel_rfl) rfl rfl) (fun w2 hb => run_loadPart Tryz.underlying25 rfl (by kernel_rfl) (B0.below hb) rfl) (fun _ _ => rfl)) ?_
    refine And.intro (ob_fieldAddr rfl (wt_none rfl) (ev_far rfl rfl) (fun _ => by kernel_rfl) (fun _ => rfl)) ?_
    refine And.intro (ob_load rfl (wt_none rfl) (ev_dep (j := 2) (by kernel_rfl) rfl rfl) (fun w2 hb => run_load1 Tryz.underlying23 rfl ((B1.below hb).cell 2)) (fun _ _ => rfl)) ?_
    refine And.intro (ob_call2 rfl Tryz.func68 (by kernel_rfl) (wt_none rfl) (ev_dep (j := 1) (by kernel_rfl) rfl rfl) (ev_dep (j := 3) (by kernel_rfl) rfl rfl) (fun w2 u0 u1 hb h0 h1 => by obtain rfl := h0; obtain rfl := h1; exact (reduced_any _ x.num _ y.den U L _ (k0z.below hb) (k1d.below hb) HY.out (Nat.le_trans lx1 (by decide)) (Nat.le_trans ly2 (by decide)) HU.out HL.out).mono fun e w3 h => RetZS.pd h hb.size)) ?_
    refine And.intro (ob_move rfl (wt_none rfl) (ev_dep (j := 4) (by kernel_rfl) rfl rfl) (fun _ _ h => h)) ?_
    refine And.intro (ob_extract rfl (wt_none rfl) (ev_dep (j := 5) (by kernel_rfl) rfl rfl) (fun w2 u hu => by obtain ⟨v, u, rfl, q1, q2, q3, q4⟩ := hu; exact ⟨v, rfl, q1, q3⟩)) ?_
    refine And.intro (ob_extract rfl (wt_none rfl) (ev_dep (j := 5) (by kernel_rfl) rfl rfl) (fun w2 u hu => by obtain ⟨v, u, rfl, q1, q2, q3, q4⟩ := hu; exact ⟨u, rfl, q2, q4⟩)) ?_
    refine And.intro (ob_alloc (z := .agg #[.bool false, .slice none 0 0]) rfl rfl (fun _ => by kernel_rfl) (fun _ _ hB h => ⟨_, rfl, hB, h⟩)) ?_
    trivial
  case done28 =>
    refine fun w1 hb1 v0 h0 v1 h1 v2 h2 v3 h3 v4 h4 v5 h5 v6 h6 v7 h7 v8 h8 d8 b hbf => ?_
    obtain rfl := h0; obtain rfl := h1; obtain rfl := h2; obtain rfl := h3
    clear h4
    clear h5
    obtain ⟨q6, f6⟩ := h6
    obtain ⟨q7, f7⟩ := h7
    obtain ⟨g28_8, rfl, hg8, B8⟩ := h8
    simp only [Act.put, List.setIfInBounds_toArray, List.set_cons_zero, List.set_cons_succ] at hbf
    subst hbf
    replace B0 := B0.below hb1
    replace k0s := k0s.below hb1
    replace k0d := k0d.below hb1
    replace k0z := k0z.below hb1
    replace k0 := k0.below hb1
    replace B1 := B1.below hb1
    replace k1s := k1s.below hb1
    replace k1d := k1d.below hb1
    replace k1z := k1z.below hb1
    replace k1 := k1.below hb1
    replace BR0 := BR0.below hb1
    replace bb := bb.trans (hb1.mono bb.size)
    have hsz1 := bb.size
    have s_6 := sB
    have s_7 := sB
    obtain ⟨A16, c16, rfl, _⟩ := id q7
    have n16 := q7
    have n16f := f7
    have n16z_ := s_7
    have BA5 := B8
    obtain ⟨u6, rfl, q6⟩ := q6
    obtain ⟨A5, c5, rfl, _⟩ := id q6
    refine ops_store (i := 9) rfl rfl rfl rfl rfl rfl (cells := [.bool (ngB U), .slice A5 (digs 4294967296 (U).natAbs).length c5]) rfl BA5 rfl (by kernel_rfl) (one2 rfl rfl) fun w2 hg2 BN2 => ?_
    replace q6 := off q6 BA5 no_ints2 hg2
    replace n16 := off n16 BA5 no_ints2 hg2
    replace k0s := off k0s BA5 no_ints2 hg2
    replace k0d := off k0d BA5 no_ints2 hg2
    replace k0z : IsZ w2 (.agg #[.bool (ngB (x).num), .slice A0 (digs 4294967296 (x).num.natAbs).length c0]) ((x).num) := ⟨_, rfl, k0s⟩
    replace k0 : IsQ w2 (.agg #[.bool (ngB (x).num), .slice A0 (digs 4294967296 (x).num.natAbs).length c0, .slice D0 (digs 4294967296 (x).den).length e0]) (x) := ⟨_, _, rfl, k0s, k0d⟩
    replace B0 := B0.grown hg2 (by omega)
    replace k1s := off k1s BA5 no_ints2 hg2
    replace k1d := off k1d BA5 no_ints2 hg2
    replace k1z : IsZ w2 (.agg #[.bool (ngB (y).num), .slice A1 (digs 4294967296 (y).num.natAbs).length c1]) ((y).num) := ⟨_, rfl, k1s⟩
    replace k1 : IsQ w2 (.agg #[.bool (ngB (y).num), .slice A1 (digs 4294967296 (y).num.natAbs).length c1, .slice D1 (digs 4294967296 (y).den).length e1]) (y) := ⟨_, _, rfl, k1s, k1d⟩
    replace B1 := B1.grown hg2 (by omega)
    replace BR0 := BR0.grown hg2 (by omega)
    replace bb := bb.trans ((Below.refl _ _).grown hg2 bb.size (fun g hg => by injection hg with hg; omega))
    have hsz2 := bb.size
    have B5 : Blk w2 (g28_8) _ _ := BN2
    have k5s := q6
    have k5 : IsZ w2 (.agg #[.bool (ngB U), .slice A5 (digs 4294967296 (U).natAbs).length c5]) (U) := ⟨_, rfl, k5s⟩
    refine ops_assign (i := 10) (.slice A16 (digs 4294967296 L).length c16) rfl rfl rfl rfl rfl fun b hbf => ?_
    simp only [Act.put, List.setIfInBounds_toArray, List.set_cons_zero, List.set_cons_succ] at hbf
    subst hbf
    refine ops_done ?_
    have f5_ := (f6 _ _ rfl).mono s_6
    have sB := bb.size
    go_upto_region 2 with (fail)
    have lt2_2 := Blk.lt B0
    have lt2_3 := Blk.lt B1
    have lt2_4 := Blk.lt BR0
    have lt2_5 := Blk.lt B5
    refine flowp 9 [Pd.eq (.pointer (some ⟨w.heap.size + 1, 0, none⟩)), Pd.eq (.agg #[.bool (ngB (y).num), .slice A1 (digs 4294967296 (y).num.natAbs).length c1]), Pd.eq (.pointer (some ⟨w.heap.size, 2, none⟩)), Pd.eq (.slice D0 (digs 4294967296 (x).den).length e0), pzs (V) (M) w2.heap.size, pzs (V) (M) w2.heap.size, pz (V) w2.heap.size, ps .u64 (digs 4294967296 M) w2.heap.size, pn 25 #[.bool false, .slice none 0 0] w2.heap.size] (by kernel_rfl) ?ob29 ?done29
    case ob29 =>
      refine And.intro (ob_fieldAddr rfl (wt_none rfl) (ev_far rfl rfl) (fun _ => by kernel_rfl) (fun _ => rfl)) ?_
      refine And.intro (ob_load rfl (wt_none rfl) (ev_dep (j := 0) (by kernel_rfl) rfl rfl) (fun w2 hb => run_loadPart Tryz.underlying25 rfl (by kernel_rfl) (B1.below hb) rfl) (fun _ _ => rfl)) ?_
      refine And.intro (ob_fieldAddr rfl (wt_none rfl) (ev_far rfl rfl) (fun _ => by kernel_rfl) (fun _ => rfl)) ?_
      refine And.intro (ob_load rfl (wt_none rfl) (ev_dep (j := 2) (by kernel_rfl) rfl rfl) (fun w2 hb => run_load1 Tryz.underlying23 rfl ((B0.below hb).cell 2)) (fun _ _ => rfl)) ?_
      refine And.intro (ob_call2 rfl Tryz.func68 (by kernel_rfl) (wt_none rfl) (ev_dep (j := 1) (by kernel_rfl) rfl rfl) (ev_dep (j := 3) (by kernel_rfl) rfl rfl) (fun w2 u0 u1 hb h0 h1 => by obtain rfl := h0; obtain rfl := h1; exact (reduced_any _ y.num _ x.den V M _ (k1z.below hb) (k0d.below hb) HX.out (Nat.le_trans ly1 (by decide)) (Nat.le_trans lx2 (by decide)) HV.out HM.out).mono fun e w3 h => RetZS.pd h hb.size)) ?_
      refine And.intro (ob_move rfl (wt_none rfl) (ev_dep (j := 4) (by kernel_rfl) rfl rfl) (fun _ _ h => h)) ?_
      refine And.intro (ob_extract rfl (wt_none rfl) (ev_dep (j := 5) (by kernel_rfl) rfl rfl) (fun w2 u hu => by obtain ⟨v, u, rfl, q1, q2, q3, q4⟩ := hu; exact ⟨v, rfl, q1, q3⟩)) ?_
      refine And.intro (ob_extract rfl (wt_none rfl) (ev_dep (j := 5) (by kernel_rfl) rfl rfl) (fun w2 u hu => by obtain ⟨v, u, rfl, q1, q2, q3, q4⟩ := hu; exact ⟨u, rfl, q2, q4⟩)) ?_
      refine And.intro (ob_alloc (z := .agg #[.bool false, .slice none 0 0]) rfl rfl (fun _ => by kernel_rfl) (fun _ _ hB h => ⟨_, rfl, hB, h⟩)) ?_
      trivial
    case done29 =>
      refine fun w3 hb3 v0 h0 v1 h1 v2 h2 v3 h3 v4 h4 v5 h5 v6 h6 v7 h7 v8 h8 d8 b hbf => ?_
      obtain rfl := h0; obtain rfl := h1; obtain rfl := h2; obtain rfl := h3
      clear h4
      clear h5
      obtain ⟨q6, f6⟩ := h6
      obtain ⟨q7, f7⟩ := h7
      obtain ⟨g29_8, rfl, hg8, B8⟩ := h8
      simp only [Act.put, List.setIfInBounds_toArray, List.set_cons_zero, List.set_cons_succ] at hbf
      subst hbf
      replace B0 := B0.below hb3
      replace k0s := k0s.below hb3
      replace k0d := k0d.below hb3
      replace k0z := k0z.below hb3
      replace k0 := k0.below hb3
      replace B1 := B1.below hb3
      replace k1s := k1s.below hb3
      replace k1d := k1d.below hb3
      replace k1z := k1z.below hb3
      replace k1 := k1.below hb3
      replace BR0 := BR0.below hb3
      replace B5 := B5.below hb3
      replace k5s := k5s.below hb3
      replace k5 := k5.below hb3
      replace n16 := n16.below hb3
      replace bb := bb.trans (hb3.mono bb.size)
      have hsz3 := bb.size
      have s_6 := sB
      have s_7 := sB
      obtain ⟨A24, c24, rfl, _⟩ := id q7
      have n24 := q7
      have n24f := f7
      have n24z_ := s_7
      have BA7 := B8
      obtain ⟨u6, rfl, q6⟩ := q6
      obtain ⟨A7, c7, rfl, _⟩ := id q6
      refine ops_store (i := 9) rfl rfl rfl rfl rfl rfl (cells := [.bool (ngB V), .slice A7 (digs 4294967296 (V).natAbs).length c7]) rfl BA7 rfl (by kernel_rfl) (one2 rfl rfl) fun w4 hg4 BN4 => ?_
      replace q6 := off q6 BA7 no_ints2 hg4
      replace n16 := off n16 BA7 no_ints2 hg4
      replace n24 := off n24 BA7 no_ints2 hg4
      replace k0s := off k0s BA7 no_ints2 hg4
      replace k0d := off k0d BA7 no_ints2 hg4
      replace k0z : IsZ w4 (.agg #[.bool (ngB (x).num), .slice A0 (digs 4294967296 (x).num.natAbs).length c0]) ((x).num) := ⟨_, rfl, k0s⟩
      replace k0 : IsQ w4 (.agg #[.bool (ngB (x).num), .slice A0 (digs 4294967296 (x).num.natAbs).length c0, .slice D0 (digs 4294967296 (x).den).length e0]) (x) := ⟨_, _, rfl, k0s, k0d⟩
      replace B0 := B0.grown hg4 (by omega)
      replace k1s := off k1s BA7 no_ints2 hg4
      replace k1d := off k1d BA7 no_ints2 hg4
      replace k1z : IsZ w4 (.agg #[.bool (ngB (y).num), .slice A1 (digs 4294967296 (y).num.natAbs).length c1]) ((y).num) := ⟨_, rfl, k1s⟩
      replace k1 : IsQ w4 (.agg #[.bool (ngB (y).num), .slice A1 (digs 4294967296 (y).num.natAbs).length c1, .slice D1 (digs 4294967296 (y).den).length e1]) (y) := ⟨_, _, rfl, k1s, k1d⟩
      replace B1 := B1.grown hg4 (by omega)
      replace BR0 := BR0.grown hg4 (by omega)
      replace k5s := off k5s BA7 no_ints2 hg4
      replace k5 : IsZ w4 (.agg #[.bool (ngB U), .slice A5 (digs 4294967296 (U).natAbs).length c5]) (U) := ⟨_, rfl, k5s⟩
      replace B5 := B5.grown hg4 (by omega)
      replace bb := bb.trans ((Below.refl _ _).grown hg4 bb.size (fun g hg => by injection hg with hg; omega))
      have hsz4 := bb.size
      have B7 : Blk w4 (g29_8) _ _ := BN4
      have k7s := q6
      have k7 : IsZ w4 (.agg #[.bool (ngB V), .slice A7 (digs 4294967296 (V).natAbs).length c7]) (V) := ⟨_, rfl, k7s⟩
      refine ops_assign (i := 10) (.slice A24 (digs 4294967296 M).length c24) rfl rfl rfl rfl rfl fun b hbf => ?_
      simp only [Act.put, List.setIfInBounds_toArray, List.set_cons_zero, List.set_cons_succ] at hbf
      subst hbf
      refine ops_done ?_
      have f7_ := (f6 _ _ rfl).mono s_6
      have sB := bb.size
      go_upto_region 3 with (fail)
      refine flowp 7 [Pd.eq (.agg #[.bool (ngB U), .slice A5 (digs 4294967296 (U).natAbs).length c5]), Pd.eq (.agg #[.bool (ngB V), .slice A7 (digs 4294967296 (V).natAbs).length c7]), pz ((Q).num) w4.heap.size, Pd.eq (.slice A24 (digs 4294967296 M).length c24), Pd.eq (.slice A16 (digs 4294967296 L).length c16), ps .u64 (digs 4294967296 (Q).den) w4.heap.size, pq (Q) w4.heap.size] (by kernel_rfl) ?ob30 ?done30
      case ob30 =>
        refine And.intro (ob_load rfl (wt_none rfl) (ev_far rfl rfl) (fun w2 hb => run_loadAll Tryz.underlying25 rfl (by kernel_rfl) (B5.below hb)) (fun _ _ => rfl)) ?_
        refine And.intro (ob_load rfl (wt_none rfl) (ev_far rfl rfl) (fun w2 hb => run_loadAll Tryz.underlying25 rfl (by kernel_rfl) (B7.below hb)) (fun _ _ => rfl)) ?_
        refine And.intro (ob_call2 rfl Tryz.func85 (by kernel_rfl) (wt_none rfl) (ev_dep (j := 0) (by kernel_rfl) rfl rfl) (ev_dep (j := 1) (by kernel_rfl) rfl rfl) (fun w2 u0 u1 hb h0 h1 => by obtain rfl := h0; obtain rfl := h1; exact (zmul_any _ _ U V (Q).num _ (k5.below hb) (k7.below hb) (Nat.le_trans lU.1 (by decide)) (Nat.le_trans lV.1 (by decide)) HQN.out.symm).mono fun e w3 h => RetZ.pd h hb.size)) ?_
        refine And.intro (ob_move rfl (wt_none rfl) (ev_far rfl rfl) (fun _ _ h => h)) ?_
        refine And.intro (ob_move rfl (wt_none rfl) (ev_far rfl rfl) (fun _ _ h => h)) ?_
        refine And.intro (ob_call2 rfl Tryz.func86 (by kernel_rfl) (wt_none rfl) (ev_dep (j := 3) (by kernel_rfl) rfl rfl) (ev_dep (j := 4) (by kernel_rfl) rfl rfl) (fun w2 u0 u1 hb h0 h1 => by obtain rfl := h0; obtain rfl := h1; exact (times_any _ M _ L _ (n24.below hb) (n16.below hb) (Nat.le_trans lV.2 (by decide)) (Nat.le_trans lU.2 (by decide))).mono fun e w3 h => RetS.pd (RetS.to h (congrArg (digs 4294967296) HQD.out)) hb.size)) ?_
        refine And.intro (ob_build2b rfl (wt_none rfl) (ev_dep (j := 2) (by kernel_rfl) rfl rfl) (ev_dep (j := 5) (by kernel_rfl) rfl rfl) (fun w2 u v hb hu hv => by obtain ⟨u7, rfl, hu7⟩ := hu.1; obtain ⟨A7, c7, rfl, _⟩ := id hu7; obtain ⟨A8, c8, rfl, _⟩ := id hv.1; exact ⟨.agg #[.bool (ngB (Q).num), .slice A7 (digs 4294967296 (Q).num.natAbs).length c7, .slice A8 (digs 4294967296 (Q).den).length c8], by kernel_rfl, ⟨⟨_, _, rfl, hu7, hv.1⟩, freshQ_mk (hu.2 _ _ rfl) hv.2⟩⟩)) ?_
        trivial
      case done30 =>
        refine fun w5 hb5 v0 h0 v1 h1 v2 h2 v3 h3 v4 h4 v5 h5 v6 h6 b hbf => ?_
        obtain rfl := h0; obtain rfl := h1; obtain rfl := h3; obtain rfl := h4
        obtain ⟨q2, f2⟩ := h2
        obtain ⟨q5, f5⟩ := h5
        obtain ⟨q6, f6⟩ := h6
        simp only [Act.put, List.setIfInBounds_toArray, List.set_cons_zero, List.set_cons_succ] at hbf
        subst hbf
        replace B0 := B0.below hb5
        replace k0s := k0s.below hb5
        replace k0d := k0d.below hb5
        replace k0z := k0z.below hb5
        replace k0 := k0.below hb5
        replace B1 := B1.below hb5
        replace k1s := k1s.below hb5
        replace k1d := k1d.below hb5
        replace k1z := k1z.below hb5
        replace k1 := k1.below hb5
        replace BR0 := BR0.below hb5
        replace B5 := B5.below hb5
        replace k5s := k5s.below hb5
        replace k5 := k5.below hb5
        replace B7 := B7.below hb5
        replace k7s := k7s.below hb5
        replace k7 := k7.below hb5
        replace n16 := n16.below hb5
        replace n24 := n24.below hb5
        replace bb := bb.trans (hb5.mono bb.size)
        have hsz5 := bb.size
        have s_2 := sB
        have s_5 := sB
        have s_6 := sB
        obtain ⟨u6, t6, rfl, q6, d6⟩ := q6
        obtain ⟨A9, c9, rfl, _⟩ := id q6
        obtain ⟨D9, e9, rfl, _⟩ := id d6
        have fS := (f6 _ _ _ rfl).1.mono s_6
        have fT := (f6 _ _ _ rfl).2.mono s_6
        refine ops_store (i := 7) rfl rfl rfl rfl rfl rfl (cells := [.bool (ngB (Q).num), .slice A9 (digs 4294967296 (Q).num.natAbs).length c9, .slice D9 (digs 4294967296 (Q).den).length e9]) rfl BR0 rfl (by kernel_rfl) (one3 rfl rfl rfl) fun w9 hg9 B9 => ?_
        have k9 := off q6 BR0 no_ints3 hg9
        have d9 := off d6 BR0 no_ints3 hg9
        have bb9 := bb.trans ((Below.refl _ _).grown hg9 bb.size (fun g hg => by injection hg with hg; omega))
        obtain ⟨C0, C1, C2, _, _, _⟩ := three B9
        refine ops_done ?_
        go_wp2
        rw [HQ0.out]
        exact bodyPost_ret (v := .agg #[.bool (ngB (Q).num), .slice A9 (digs 4294967296 (Q).num.natAbs).length c9, .slice D9 (digs 4294967296 (Q).den).length e9]) (by simp [results, Tryz.results50, go_sem, C0, C1, C2]) rfl ⟨_, rfl, isQ_mk k9 d9 rfl rfl rfl, freshQ_mk fS fT, bb9⟩
end Go.Proofs.YtpcllhdfalebbaaGreatDoor.rat
namespace Go.Proofs.YtpcllhdfalebbaaGreatDoor.rat
open Go.RowKit Go.Proofs.YtpcllhdfalebbaaGreatDoor.num Go.Proofs.YtpcllhdfalebbaaGreatDoor.mem Go.Proofs.YtpcllhdfalebbaaGreatDoor.nat Go.Proofs.YtpcllhdfalebbaaGreatDoor.txt Go.Proofs.YtpcllhdfalebbaaGreatDoor.str Go.Proofs.YtpcllhdfalebbaaGreatDoor.flow Go.Proofs.YtpcllhdfalebbaaGreatDoor.whl
set_option linter.unusedVariables false
set_option maxHeartbeats 1600000 in
set_option maxRecDepth 100000 in
theorem make8_ok (a0 : Value) (n : Int) (a1 : Value) (d : Int) (w : World) (h0 : IsZ w a0 n) (h1 : IsZ w a1 d) (hl : lenZ n ≤ 1000) (hl2 : lenZ d ≤ 1000) (hd : d ≠ 0) :
    Calls Tryz.prog 26 #[a0, a1] w (RetQF (Rat.divInt n d) 0 w) := by
  rcases hs1 : ngB d with _ | _
  · obtain ⟨u0, rfl, s0⟩ := h0
    obtain ⟨A0, c0, rfl, _⟩ := id s0
    obtain ⟨u1, rfl, s1⟩ := h1
    obtain ⟨A1, c1, rfl, _⟩ := id s1
    have HDN : Hid (d.natAbs ≠ 0) := by show _ ≠ _; omega
    obtain ⟨U, hU⟩ : ∃ U, U = (mkRat n d.natAbs).num := ⟨_, rfl⟩
    obtain ⟨L, hL⟩ : ∃ L, L = (mkRat n d.natAbs).den := ⟨_, rfl⟩
    have HUL : Hid (lenZ U ≤ 1000) := by show _ ≤ _; rw [hU]; exact (lenQ_mk HDN.out hl hl2).1
    have HU := Lib.hid hU
    have HL := Lib.hid hL
    obtain ⟨Q, hQ⟩ : ∃ Q, Q = Rat.divInt n d := ⟨_, rfl⟩
    have HQ0 : Hid (Rat.divInt n d = Q) := hQ.symm
    have HQ : Hid (Q = mkRat n d.natAbs) := by show _ = _; rw [hQ]; exact divInt_gt (by have := ngB_false hs1; omega)
    have HQN : Hid (Q.num = U) := by show _ = _; rw [HQ.out, ← hU]
    have HQD : Hid (Q.den = L) := by show _ = _; rw [HQ.out, ← hL]
    have HS : Hid ((1 : Int) = ordz d 0) := (ordz_gt (by have := ngB_false hs1; omega)).symm
    clear hU hL hQ
    go_enter Tryz.func26, Tryz.ntmps26
    go_upto_region 1 with (fail)
    obtain ⟨wx, hwx, bb, B0, B1, BR0, hsz⟩ := vars3 w 25 25 27 #[.bool (ngB n), .slice A0 (digs 4294967296 (n).natAbs).length c0] #[.bool false, .slice A1 (digs 4294967296 (d).natAbs).length c1] #[.bool false, .slice none 0 0, .slice none 0 0]
    rw [hwx]
    clear hwx
    have k0s := s0.below bb
    have k0 : IsZ wx (.agg #[.bool (ngB n), .slice A0 (digs 4294967296 (n).natAbs).length c0]) (n) := isZ_mk k0s rfl rfl
    have k1s := s1.below bb
    have k1 : IsZ wx (.agg #[.bool false, .slice A1 (digs 4294967296 (d).natAbs).length c1]) (d) := isZ_mk k1s rfl hs1.symm
    have hsz0 := bb.size
    have sB := bb.size
    refine flowp 3 [Pd.eq (.agg #[.bool false, .slice A1 (digs 4294967296 (d).natAbs).length c1]), Pd.eq (.int .i64 1), Pd.eq (.bool false)] (by kernel_rfl) ?ob8 ?done8
    case ob8 =>
      refine And.intro (ob_load rfl (wt_none rfl) (ev_far rfl rfl) (fun w2 hb => run_loadAll Tryz.underlying25 rfl (by kernel_rfl) (B1.below hb)) (fun _ _ => rfl)) ?_
      refine And.intro (ob_call1 rfl Tryz.func67 (by kernel_rfl) (wt_none rfl) (ev_dep (j := 0) (by kernel_rfl) rfl rfl) (fun w2 u0 hb h0 => by obtain rfl := h0; exact (sign_any _ d 1 _ (k1.below hb) HS.out).mono fun e w3 h => RetV.pd h)) ?_
      refine And.intro (ob_bin rfl (wt_none rfl) (ev_dep (j := 1) (by kernel_rfl) rfl rfl) (ev_const _) (fun _ _ _ hx hy => ⟨.bool ((1 : Int) == 0), by rw [hx, hy]; exact bin_eql_int _ _ _ _ _, congrArg Value.bool (by decide)⟩)) ?_
      trivial
    case done8 =>
      refine fun w1 hb1 v0 h0 v1 h1 v2 h2 b hbf => ?_
      obtain rfl := h0; obtain rfl := h1; obtain rfl := h2
      simp only [Act.put, List.setIfInBounds_toArray, List.set_cons_zero, List.set_cons_succ] at hbf
      subst hbf
      replace B0 := B0.below hb1
      replace k0s := k0s.below hb1
      replace k0 := k0.below hb1
      replace B1 := B1.below hb1
      replace k1s := k1s.below hb1
      replace k1 := k1.below hb1
      replace BR0 := BR0.below hb1
      replace bb := bb.trans (hb1.mono bb.size)
      have hsz1 := bb.size
      refine ops_done ?_
      have sB := bb.size
      go_upto_region 3 with (fail)
      have lt1_2 := Blk.lt B0
      have lt1_3 := Blk.lt B1
      have lt1_4 := Blk.lt BR0
      refine flowp 8 [Pd.eq (.agg #[.bool (ngB n), .slice A0 (digs 4294967296 (n).natAbs).length c0]), Pd.eq (.pointer (some ⟨w.heap.size + 1, 1, none⟩)), Pd.eq (.slice A1 (digs 4294967296 (d).natAbs).length c1), pzs (U) (L) w1.heap.size, pzs (U) (L) w1.heap.size, pz (U) w1.heap.size, ps .u64 (digs 4294967296 L) w1.heap.size, pn 25 #[.bool false, .slice none 0 0] w1.heap.size] (by kernel_rfl) ?ob9 ?done9
      case ob9 =>
        refine And.intro (ob_load rfl (wt_none rfl) (ev_far rfl rfl) (fun w2 hb => run_loadAll Tryz.underlying25 rfl (by kernel_rfl) (B0.below hb)) (fun _ _ => rfl)) ?_
        refine And.intro (ob_fieldAddr rfl (wt_none rfl) (ev_far rfl rfl) (fun _ => by kernel_rfl) (fun _ => rfl)) ?_
        refine And.intro (ob_load rfl (wt_none rfl) (ev_dep (j := 1) (by kernel_rfl) rfl rfl) (fun w2 hb => run_load1 Tryz.underlying23 rfl ((B1.below hb).cell 1)) (fun _ _ => rfl)) ?_
        refine And.intro (ob_call2 rfl Tryz.func68 (by kernel_rfl) (wt_none rfl) (ev_dep (j := 0) (by kernel_rfl) rfl rfl) (ev_dep (j := 2) (by kernel_rfl) rfl rfl) (fun w2 u0 u1 hb h0 h1 => by obtain rfl := h0; obtain rfl := h1; exact (reduced_any _ n _ d.natAbs U L _ (k0.below hb) (k1s.below hb) HDN.out (Nat.le_trans hl (by decide)) (Nat.le_trans hl2 (by decide)) HU.out HL.out).mono fun e w3 h => RetZS.pd h hb.size)) ?_
        refine And.intro (ob_move rfl (wt_none rfl) (ev_dep (j := 3) (by kernel_rfl) rfl rfl) (fun _ _ h => h)) ?_
        refine And.intro (ob_extract rfl (wt_none rfl) (ev_dep (j := 4) (by kernel_rfl) rfl rfl) (fun w2 u hu => by obtain ⟨v, u, rfl, q1, q2, q3, q4⟩ := hu; exact ⟨v, rfl, q1, q3⟩)) ?_
        refine And.intro (ob_extract rfl (wt_none rfl) (ev_dep (j := 4) (by kernel_rfl) rfl rfl) (fun w2 u hu => by obtain ⟨v, u, rfl, q1, q2, q3, q4⟩ := hu; exact ⟨u, rfl, q2, q4⟩)) ?_
        refine And.intro (ob_alloc (z := .agg #[.bool false, .slice none 0 0]) rfl rfl (fun _ => by kernel_rfl) (fun _ _ hB h => ⟨_, rfl, hB, h⟩)) ?_
        trivial
      case done9 =>
        refine fun w2 hb2 v0 h0 v1 h1 v2 h2 v3 h3 v4 h4 v5 h5 v6 h6 v7 h7 d7 b hbf => ?_
        obtain rfl := h0; obtain rfl := h1; obtain rfl := h2
        clear h3
        clear h4
        obtain ⟨q5, f5⟩ := h5
        obtain ⟨q6, f6⟩ := h6
        obtain ⟨g9_7, rfl, hg7, B7⟩ := h7
        simp only [Act.put, List.setIfInBounds_toArray, List.set_cons_zero, List.set_cons_succ] at hbf
        subst hbf
        replace B0 := B0.below hb2
        replace k0s := k0s.below hb2
        replace k0 := k0.below hb2
        replace B1 := B1.below hb2
        replace k1s := k1s.below hb2
        replace k1 := k1.below hb2
        replace BR0 := BR0.below hb2
        replace bb := bb.trans (hb2.mono bb.size)
        have hsz2 := bb.size
        have s_5 := sB
        have s_6 := sB
        obtain ⟨A18, c18, rfl, _⟩ := id q6
        have n18 := q6
        have n18f := f6
        have n18z_ := s_6
        have BA6 := B7
        obtain ⟨u5, rfl, q5⟩ := q5
        obtain ⟨A6, c6, rfl, _⟩ := id q5
        refine ops_store (i := 8) rfl rfl rfl rfl rfl rfl (cells := [.bool (ngB U), .slice A6 (digs 4294967296 (U).natAbs).length c6]) rfl BA6 rfl (by kernel_rfl) (one2 rfl rfl) fun w3 hg3 BN3 => ?_
        replace q5 := off q5 BA6 no_ints2 hg3
        replace n18 := off n18 BA6 no_ints2 hg3
        replace k0s := off k0s BA6 no_ints2 hg3
        replace k0 : IsZ w3 (.agg #[.bool (ngB n), .slice A0 (digs 4294967296 (n).natAbs).length c0]) (n) := ⟨_, rfl, k0s⟩
        replace B0 := B0.grown hg3 (by omega)
        replace k1s := off k1s BA6 no_ints2 hg3
        replace k1 : IsZ w3 (.agg #[.bool false, .slice A1 (digs 4294967296 (d).natAbs).length c1]) (d) := isZ_mk k1s rfl hs1.symm
        replace B1 := B1.grown hg3 (by omega)
        replace BR0 := BR0.grown hg3 (by omega)
        replace bb := bb.trans ((Below.refl _ _).grown hg3 bb.size (fun g hg => by injection hg with hg; omega))
        have hsz3 := bb.size
        have B6 : Blk w3 (g9_7) _ _ := BN3
        have k6s := q5
        have k6 : IsZ w3 (.agg #[.bool (ngB U), .slice A6 (digs 4294967296 (U).natAbs).length c6]) (U) := ⟨_, rfl, k6s⟩
        refine ops_assign (i := 9) (.slice A18 (digs 4294967296 L).length c18) rfl rfl rfl rfl rfl fun b hbf => ?_
        simp only [Act.put, List.setIfInBounds_toArray, List.set_cons_zero, List.set_cons_succ] at hbf
        subst hbf
        refine ops_done ?_
        have f6_ := (f5 _ _ rfl).mono s_5
        have sB := bb.size
        go_upto_region 4 with (fail)
        refine flowp 2 [Pd.eq (.pointer (some ⟨w.heap.size + 1, 0, none⟩)), Pd.eq (.bool false)] (by kernel_rfl) ?ob10 ?done10
        case ob10 =>
          refine And.intro (ob_fieldAddr rfl (wt_none rfl) (ev_far rfl rfl) (fun _ => by kernel_rfl) (fun _ => rfl)) ?_
          refine And.intro (ob_load rfl (wt_none rfl) (ev_dep (j := 0) (by kernel_rfl) rfl rfl) (fun w2 hb => run_load1 Tryz.underlying4 rfl ((B1.below hb).cell 0)) (fun _ _ => rfl)) ?_
          trivial
        case done10 =>
          refine fun w4 hb4 v0 h0 v1 h1 b hbf => ?_
          obtain rfl := h0; obtain rfl := h1
          simp only [Act.put, List.setIfInBounds_toArray, List.set_cons_zero, List.set_cons_succ] at hbf
          subst hbf
          replace B0 := B0.below hb4
          replace k0s := k0s.below hb4
          replace k0 := k0.below hb4
          replace B1 := B1.below hb4
          replace k1s := k1s.below hb4
          replace k1 := k1.below hb4
          replace BR0 := BR0.below hb4
          replace B6 := B6.below hb4
          replace k6s := k6s.below hb4
          replace k6 := k6.below hb4
          replace n18 := n18.below hb4
          replace bb := bb.trans (hb4.mono bb.size)
          have hsz4 := bb.size
          refine ops_done ?_
          have sB := bb.size
          go_upto_region 6 with (fail)
          refine flowp 3 [Pd.eq (.agg #[.bool (ngB U), .slice A6 (digs 4294967296 (U).natAbs).length c6]), Pd.eq (.slice A18 (digs 4294967296 L).length c18), Pd.eq (.agg #[.bool (ngB U), .slice A6 (digs 4294967296 (U).natAbs).length c6, .slice A18 (digs 4294967296 L).length c18])] (by kernel_rfl) ?ob11 ?done11
          case ob11 =>
            refine And.intro (ob_load rfl (wt_none rfl) (ev_far rfl rfl) (fun w2 hb => run_loadAll Tryz.underlying25 rfl (by kernel_rfl) (B6.below hb)) (fun _ _ => rfl)) ?_
            refine And.intro (ob_move rfl (wt_none rfl) (ev_far rfl rfl) (fun _ _ h => h)) ?_
            refine And.intro (ob_build2b rfl (wt_none rfl) (ev_dep (j := 0) (by kernel_rfl) rfl rfl) (ev_dep (j := 1) (by kernel_rfl) rfl rfl) (fun w2 u v hb hu hv => by obtain rfl := hu; obtain rfl := hv; exact ⟨.agg #[.bool (ngB U), .slice A6 (digs 4294967296 (U).natAbs).length c6, .slice A18 (digs 4294967296 L).length c18], by kernel_rfl, rfl⟩)) ?_
            trivial
          case done11 =>
            refine fun w5 hb5 v0 h0 v1 h1 v2 h2 b hbf => ?_
            obtain rfl := h0; obtain rfl := h1; obtain rfl := h2
            simp only [Act.put, List.setIfInBounds_toArray, List.set_cons_zero, List.set_cons_succ] at hbf
            subst hbf
            replace B0 := B0.below hb5
            replace k0s := k0s.below hb5
            replace k0 := k0.below hb5
            replace B1 := B1.below hb5
            replace k1s := k1s.below hb5
            replace k1 := k1.below hb5
            replace BR0 := BR0.below hb5
            replace B6 := B6.below hb5
            replace k6s := k6s.below hb5
            replace k6 := k6.below hb5
            replace n18 := n18.below hb5
            replace bb := bb.trans (hb5.mono bb.size)
            have hsz5 := bb.size
            refine ops_store (i := 3) rfl rfl rfl rfl rfl rfl (cells := [.bool (ngB U), .slice A6 (digs 4294967296 (U).natAbs).length c6, .slice A18 (digs 4294967296 L).length c18]) rfl BR0 rfl (by kernel_rfl) (one3 rfl rfl rfl) fun w9 hg9 B9 => ?_
            have k9 := off k6s BR0 no_ints3 hg9
            have d9 := off n18 BR0 no_ints3 hg9
            have bb9 := bb.trans ((Below.refl _ _).grown hg9 bb.size (fun g hg => by injection hg with hg; omega))
            obtain ⟨C0, C1, C2, _, _, _⟩ := three B9
            refine ops_assign (i := 4) (.int .i64 0) rfl rfl rfl rfl rfl fun b hbf => ?_
            simp only [Act.put, List.setIfInBounds_toArray, List.set_cons_zero, List.set_cons_succ] at hbf
            subst hbf
            refine ops_done ?_
            go_wp2
            rw [HQ0.out]
            exact bodyPost_ret (v := .tuple #[.agg #[.bool (ngB U), .slice A6 (digs 4294967296 (U).natAbs).length c6, .slice A18 (digs 4294967296 L).length c18], .int .i64 0]) (by simp [results, Tryz.results26, go_sem, C0, C1, C2]) rfl ⟨_, rfl, isQ_mk k9 d9 (by rw [HQN.out]) (by rw [HQN.out]) HQD.out, freshQ_mk f6_ (n18f.mono n18z_), bb9⟩
  · obtain ⟨u0, rfl, s0⟩ := h0
    obtain ⟨A0, c0, rfl, _⟩ := id s0
    obtain ⟨u1, rfl, s1⟩ := h1
    obtain ⟨A1, c1, rfl, _⟩ := id s1
    have HDN : Hid (d.natAbs ≠ 0) := by show _ ≠ _; omega
    obtain ⟨U, hU⟩ : ∃ U, U = (mkRat n d.natAbs).num := ⟨_, rfl⟩
    obtain ⟨L, hL⟩ : ∃ L, L = (mkRat n d.natAbs).den := ⟨_, rfl⟩
    have HUL : Hid (lenZ U ≤ 1000) := by show _ ≤ _; rw [hU]; exact (lenQ_mk HDN.out hl hl2).1
    have HU := Lib.hid hU
    have HL := Lib.hid hL
    obtain ⟨Q, hQ⟩ : ∃ Q, Q = Rat.divInt n d := ⟨_, rfl⟩
    have HQ0 : Hid (Rat.divInt n d = Q) := hQ.symm
    have HQ : Hid (Q = -mkRat n d.natAbs) := by show _ = _; rw [hQ, divInt_lt (ngB_true hs1)]; exact neg_make n d.natAbs HDN.out
    have HQN : Hid (Q.num = -U) := by show _ = _; rw [HQ.out, (neg_parts _).1, ← hU]
    have HQD : Hid (Q.den = L) := by show _ = _; rw [HQ.out, (neg_parts _).2, ← hL]
    have HS : Hid ((-1 : Int) = ordz d 0) := (ordz_lt (ngB_true hs1)).symm
    clear hU hL hQ
    go_enter Tryz.func26, Tryz.ntmps26
    go_upto_region 1 with (fail)
    obtain ⟨wx, hwx, bb, B0, B1, BR0, hsz⟩ := vars3 w 25 25 27 #[.bool (ngB n), .slice A0 (digs 4294967296 (n).natAbs).length c0] #[.bool true, .slice A1 (digs 4294967296 (d).natAbs).length c1] #[.bool false, .slice none 0 0, .slice none 0 0]
    rw [hwx]
    clear hwx
    have k0s := s0.below bb
    have k0 : IsZ wx (.agg #[.bool (ngB n), .slice A0 (digs 4294967296 (n).natAbs).length c0]) (n) := isZ_mk k0s rfl rfl
    have k1s := s1.below bb
    have k1 : IsZ wx (.agg #[.bool true, .slice A1 (digs 4294967296 (d).natAbs).length c1]) (d) := isZ_mk k1s rfl hs1.symm
    have hsz0 := bb.size
    have sB := bb.size
    refine flowp 3 [Pd.eq (.agg #[.bool true, .slice A1 (digs 4294967296 (d).natAbs).length c1]), Pd.eq (.int .i64 (-1)), Pd.eq (.bool false)] (by kernel_rfl) ?ob12 ?done12
    case ob12 =>
      refine And.intro (ob_load rfl (wt_none rfl) (ev_far rfl rfl) (fun w2 hb => run_loadAll Tryz.underlying25 rfl (by kernel_rfl) (B1.below hb)) (fun _ _ => rfl)) ?_
      refine And.intro (ob_call1 rfl Tryz.func67 (by kernel_rfl) (wt_none rfl) (ev_dep (j := 0) (by kernel_rfl) rfl rfl) (fun w2 u0 hb h0 => by obtain rfl := h0; exact (sign_any _ d (-1) _ (k1.below hb) HS.out).mono fun e w3 h => RetV.pd h)) ?_
      refine And.intro (ob_bin rfl (wt_none rfl) (ev_dep (j := 1) (by kernel_rfl) rfl rfl) (ev_const _) (fun _ _ _ hx hy => ⟨.bool ((-1 : Int) == 0), by rw [hx, hy]; exact bin_eql_int _ _ _ _ _, congrArg Value.bool (by decide)⟩)) ?_
      trivial
    case done12 =>
      refine fun w1 hb1 v0 h0 v1 h1 v2 h2 b hbf => ?_
      obtain rfl := h0; obtain rfl := h1; obtain rfl := h2
      simp only [Act.put, List.setIfInBounds_toArray, List.set_cons_zero, List.set_cons_succ] at hbf
      subst hbf
      replace B0 := B0.below hb1
      replace k0s := k0s.below hb1
      replace k0 := k0.below hb1
      replace B1 := B1.below hb1
      replace k1s := k1s.below hb1
      replace k1 := k1.below hb1
      replace BR0 := BR0.below hb1
      replace bb := bb.trans (hb1.mono bb.size)
      have hsz1 := bb.size
      refine ops_done ?_
      have sB := bb.size
      go_upto_region 3 with (fail)
      have lt1_2 := Blk.lt B0
      have lt1_3 := Blk.lt B1
      have lt1_4 := Blk.lt BR0
      refine flowp 8 [Pd.eq (.agg #[.bool (ngB n), .slice A0 (digs 4294967296 (n).natAbs).length c0]), Pd.eq (.pointer (some ⟨w.heap.size + 1, 1, none⟩)), Pd.eq (.slice A1 (digs 4294967296 (d).natAbs).length c1), pzs (U) (L) w1.heap.size, pzs (U) (L) w1.heap.size, pz (U) w1.heap.size, ps .u64 (digs 4294967296 L) w1.heap.size, pn 25 #[.bool false, .slice none 0 0] w1.heap.size] (by kernel_rfl) ?ob13 ?done13
      case ob13 =>
        refine And.intro (ob_load rfl (wt_none rfl) (ev_far rfl rfl) (fun w2 hb => run_loadAll Tryz.underlying25 rfl (by kernel_rfl) (B0.below hb)) (fun _ _ => rfl)) ?_
        refine And.intro (ob_fieldAddr rfl (wt_none rfl) (ev_far rfl rfl) (fun _ => by kernel_rfl) (fun _ => rfl)) ?_
        refine And.intro (ob_load rfl (wt_none rfl) (ev_dep (j := 1) (by kernel_rfl) rfl rfl) (fun w2 hb => run_load1 Tryz.underlying23 rfl ((B1.below hb).cell 1)) (fun _ _ => rfl)) ?_
        refine And.intro (ob_call2 rfl Tryz.func68 (by kernel_rfl) (wt_none rfl) (ev_dep (j := 0) (by kernel_rfl) rfl rfl) (ev_dep (j := 2) (by kernel_rfl) rfl rfl) (fun w2 u0 u1 hb h0 h1 => by obtain rfl := h0; obtain rfl := h1; exact (reduced_any _ n _ d.natAbs U L _ (k0.below hb) (k1s.below hb) HDN.out (Nat.le_trans hl (by decide)) (Nat.le_trans hl2 (by decide)) HU.out HL.out).mono fun e w3 h => RetZS.pd h hb.size)) ?_
        refine And.intro (ob_move rfl (wt_none rfl) (ev_dep (j := 3) (by kernel_rfl) rfl rfl) (fun _ _ h => h)) ?_
        refine And.intro (ob_extract rfl (wt_none rfl) (ev_dep (j := 4) (by kernel_rfl) rfl rfl) (fun w2 u hu => by obtain ⟨v, u, rfl, q1, q2, q3, q4⟩ := hu; exact ⟨v, rfl, q1, q3⟩)) ?_
        refine And.intro (ob_extract rfl (wt_none rfl) (ev_dep (j := 4) (by kernel_rfl) rfl rfl) (fun w2 u hu => by obtain ⟨v, u, rfl, q1, q2, q3, q4⟩ := hu; exact ⟨u, rfl, q2, q4⟩)) ?_
        refine And.intro (ob_alloc (z := .agg #[.bool false, .slice none 0 0]) rfl rfl (fun _ => by kernel_rfl) (fun _ _ hB h => ⟨_, rfl, hB, h⟩)) ?_
        trivial
      case done13 =>
        refine fun w2 hb2 v0 h0 v1 h1 v2 h2 v3 h3 v4 h4 v5 h5 v6 h6 v7 h7 d7 b hbf => ?_
        obtain rfl := h0; obtain rfl := h1; obtain rfl := h2
        clear h3
        clear h4
        obtain ⟨q5, f5⟩ := h5
        obtain ⟨q6, f6⟩ := h6
        obtain ⟨g13_7, rfl, hg7, B7⟩ := h7
        simp only [Act.put, List.setIfInBounds_toArray, List.set_cons_zero, List.set_cons_succ] at hbf
        subst hbf
        replace B0 := B0.below hb2
        replace k0s := k0s.below hb2
        replace k0 := k0.below hb2
        replace B1 := B1.below hb2
        replace k1s := k1s.below hb2
        replace k1 := k1.below hb2
        replace BR0 := BR0.below hb2
        replace bb := bb.trans (hb2.mono bb.size)
        have hsz2 := bb.size
        have s_5 := sB
        have s_6 := sB
        obtain ⟨A18, c18, rfl, _⟩ := id q6
        have n18 := q6
        have n18f := f6
        have n18z_ := s_6
        have BA6 := B7
        obtain ⟨u5, rfl, q5⟩ := q5
        obtain ⟨A6, c6, rfl, _⟩ := id q5
        refine ops_store (i := 8) rfl rfl rfl rfl rfl rfl (cells := [.bool (ngB U), .slice A6 (digs 4294967296 (U).natAbs).length c6]) rfl BA6 rfl (by kernel_rfl) (one2 rfl rfl) fun w3 hg3 BN3 => ?_
        replace q5 := off q5 BA6 no_ints2 hg3
        replace n18 := off n18 BA6 no_ints2 hg3
        replace k0s := off k0s BA6 no_ints2 hg3
        replace k0 : IsZ w3 (.agg #[.bool (ngB n), .slice A0 (digs 4294967296 (n).natAbs).length c0]) (n) := ⟨_, rfl, k0s⟩
        replace B0 := B0.grown hg3 (by omega)
        replace k1s := off k1s BA6 no_ints2 hg3
        replace k1 : IsZ w3 (.agg #[.bool true, .slice A1 (digs 4294967296 (d).natAbs).length c1]) (d) := isZ_mk k1s rfl hs1.symm
        replace B1 := B1.grown hg3 (by omega)
        replace BR0 := BR0.grown hg3 (by omega)
        replace bb := bb.trans ((Below.refl _ _).grown hg3 bb.size (fun g hg => by injection hg with hg; omega))
        have hsz3 := bb.size
        have B6 : Blk w3 (g13_7) _ _ := BN3
        have k6s := q5
        have k6 : IsZ w3 (.agg #[.bool (ngB U), .slice A6 (digs 4294967296 (U).natAbs).length c6]) (U) := ⟨_, rfl, k6s⟩
        refine ops_assign (i := 9) (.slice A18 (digs 4294967296 L).length c18) rfl rfl rfl rfl rfl fun b hbf => ?_
        simp only [Act.put, List.setIfInBounds_toArray, List.set_cons_zero, List.set_cons_succ] at hbf
        subst hbf
        refine ops_done ?_
        have f6_ := (f5 _ _ rfl).mono s_5
        have sB := bb.size
        go_upto_region 4 with (fail)
        refine flowp 2 [Pd.eq (.pointer (some ⟨w.heap.size + 1, 0, none⟩)), Pd.eq (.bool true)] (by kernel_rfl) ?ob14 ?done14
        case ob14 =>
          refine And.intro (ob_fieldAddr rfl (wt_none rfl) (ev_far rfl rfl) (fun _ => by kernel_rfl) (fun _ => rfl)) ?_
          refine And.intro (ob_load rfl (wt_none rfl) (ev_dep (j := 0) (by kernel_rfl) rfl rfl) (fun w2 hb => run_load1 Tryz.underlying4 rfl ((B1.below hb).cell 0)) (fun _ _ => rfl)) ?_
          trivial
        case done14 =>
          refine fun w4 hb4 v0 h0 v1 h1 b hbf => ?_
          obtain rfl := h0; obtain rfl := h1
          simp only [Act.put, List.setIfInBounds_toArray, List.set_cons_zero, List.set_cons_succ] at hbf
          subst hbf
          replace B0 := B0.below hb4
          replace k0s := k0s.below hb4
          replace k0 := k0.below hb4
          replace B1 := B1.below hb4
          replace k1s := k1s.below hb4
          replace k1 := k1.below hb4
          replace BR0 := BR0.below hb4
          replace B6 := B6.below hb4
          replace k6s := k6s.below hb4
          replace k6 := k6.below hb4
          replace n18 := n18.below hb4
          replace bb := bb.trans (hb4.mono bb.size)
          have hsz4 := bb.size
          refine ops_done ?_
          have sB := bb.size
          go_upto_region 5 with (fail)
          refine flowp 2 [Pd.eq (.agg #[.bool (ngB U), .slice A6 (digs 4294967296 (U).natAbs).length c6]), pz ((-U)) w4.heap.size] (by kernel_rfl) ?ob15 ?done15
          case ob15 =>
            refine And.intro (ob_load rfl (wt_none rfl) (ev_far rfl rfl) (fun w2 hb => run_loadAll Tryz.underlying25 rfl (by kernel_rfl) (B6.below hb)) (fun _ _ => rfl)) ?_
            refine And.intro (ob_call1 rfl Tryz.func69 (by kernel_rfl) (wt_none rfl) (ev_dep (j := 0) (by kernel_rfl) rfl rfl) (fun w2 u0 hb h0 => by obtain rfl := h0; exact (zneg_any _ U _ (k6.below hb) (Nat.le_trans HUL.out (by decide))).mono fun e w3 h => RetZ.pd h hb.size)) ?_
            trivial
          case done15 =>
            refine fun w5 hb5 v0 h0 v1 h1 b hbf => ?_
            obtain rfl := h0
            obtain ⟨q1, f1⟩ := h1
            simp only [Act.put, List.setIfInBounds_toArray, List.set_cons_zero, List.set_cons_succ] at hbf
            subst hbf
            replace B0 := B0.below hb5
            replace k0s := k0s.below hb5
            replace k0 := k0.below hb5
            replace B1 := B1.below hb5
            replace k1s := k1s.below hb5
            replace k1 := k1.below hb5
            replace BR0 := BR0.below hb5
            replace B6 := B6.below hb5
            replace k6s := k6s.below hb5
            replace k6 := k6.below hb5
            replace n18 := n18.below hb5
            replace bb := bb.trans (hb5.mono bb.size)
            have hsz5 := bb.size
            have s_1 := sB
            obtain ⟨u1, rfl, q1⟩ := q1
            obtain ⟨A6n, c6n, rfl, _⟩ := id q1
            refine ops_store (i := 2) rfl rfl rfl rfl rfl rfl (cells := [.bool (ngB (-U)), .slice A6n (digs 4294967296 ((-U)).natAbs).length c6n]) rfl B6 rfl (by kernel_rfl) (one2 rfl rfl) fun w6 hg6 BN6 => ?_
            replace q1 := off q1 B6 no_ints2 hg6
            replace n18 := off n18 B6 no_ints2 hg6
            replace k0s := off k0s B6 no_ints2 hg6
            replace k0 : IsZ w6 (.agg #[.bool (ngB n), .slice A0 (digs 4294967296 (n).natAbs).length c0]) (n) := ⟨_, rfl, k0s⟩
            replace B0 := B0.grown hg6 (by omega)
            replace k1s := off k1s B6 no_ints2 hg6
            replace k1 : IsZ w6 (.agg #[.bool true, .slice A1 (digs 4294967296 (d).natAbs).length c1]) (d) := isZ_mk k1s rfl hs1.symm
            replace B1 := B1.grown hg6 (by omega)
            replace BR0 := BR0.grown hg6 (by omega)
            replace bb := bb.trans ((Below.refl _ _).grown hg6 bb.size (fun g hg => by injection hg with hg; omega))
            have hsz6 := bb.size
            have B6n : Blk w6 (g13_7) _ _ := BN6
            have k6ns := q1
            have k6n : IsZ w6 (.agg #[.bool (ngB (-U)), .slice A6n (digs 4294967296 ((-U)).natAbs).length c6n]) ((-U)) := ⟨_, rfl, k6ns⟩
            refine ops_done ?_
            have f6n_ := (f1 _ _ rfl).mono s_1
            have sB := bb.size
            go_upto_region 6 with (fail)
            refine flowp 3 [Pd.eq (.agg #[.bool (ngB (-U)), .slice A6n (digs 4294967296 ((-U)).natAbs).length c6n]), Pd.eq (.slice A18 (digs 4294967296 L).length c18), Pd.eq (.agg #[.bool (ngB (-U)), .slice A6n (digs 4294967296 ((-U)).natAbs).length c6n, .slice A18 (digs 4294967296 L).length c18])] (by kernel_rfl) ?ob16 ?done16
            case ob16 =>
              refine And.intro (ob_load rfl (wt_none rfl) (ev_far rfl rfl) (fun w2 hb => run_loadAll Tryz.underlying25 rfl (by kernel_rfl) (B6n.below hb)) (fun _ _ => rfl)) ?_
              refine And.intro (ob_move rfl (wt_none rfl) (ev_far rfl rfl) (fun _ _ h => h)) ?_
              refine And.intro (ob_build2b rfl (wt_none rfl) (ev_dep (j := 0) (by kernel_rfl) rfl rfl) (ev_dep (j := 1) (by kernel_rfl) rfl rfl) (fun w2 u v hb hu hv => by obtain rfl := hu; obtain rfl := hv; exact ⟨.agg #[.bool (ngB (-U)), .slice A6n (digs 4294967296 ((-U)).natAbs).length c6n, .slice A18 (digs 4294967296 L).length c18], by kernel_rfl, rfl⟩)) ?_
              trivial
            case done16 =>
              refine fun w7 hb7 v0 h0 v1 h1 v2 h2 b hbf => ?_
              obtain rfl := h0; obtain rfl := h1; obtain rfl := h2
              simp only [Act.put, List.setIfInBounds_toArray, List.set_cons_zero, List.set_cons_succ] at hbf
              subst hbf
              replace B0 := B0.below hb7
              replace k0s := k0s.below hb7
              replace k0 := k0.below hb7
              replace B1 := B1.below hb7
              replace k1s := k1s.below hb7
              replace k1 := k1.below hb7
              replace BR0 := BR0.below hb7
              replace B6n := B6n.below hb7
              replace k6ns := k6ns.below hb7
              replace k6n := k6n.below hb7
              replace n18 := n18.below hb7
              replace bb := bb.trans (hb7.mono bb.size)
              have hsz7 := bb.size
              refine ops_store (i := 3) rfl rfl rfl rfl rfl rfl (cells := [.bool (ngB (-U)), .slice A6n (digs 4294967296 ((-U)).natAbs).length c6n, .slice A18 (digs 4294967296 L).length c18]) rfl BR0 rfl (by kernel_rfl) (one3 rfl rfl rfl) fun w9 hg9 B9 => ?_
              have k9 := off k6ns BR0 no_ints3 hg9
              have d9 := off n18 BR0 no_ints3 hg9
              have bb9 := bb.trans ((Below.refl _ _).grown hg9 bb.size (fun g hg => by injection hg with hg; omega))
              obtain ⟨C0, C1, C2, _, _, _⟩ := three B9
              refine ops_assign (i := 4) (.int .i64 0) rfl rfl rfl rfl rfl fun b hbf => ?_
              simp only [Act.put, List.setIfInBounds_toArray, List.set_cons_zero, List.set_cons_succ] at hbf
              subst hbf
              refine ops_done ?_
              go_wp2
              rw [HQ0.out]
              exact bodyPost_ret (v := .tuple #[.agg #[.bool (ngB (-U)), .slice A6n (digs 4294967296 ((-U)).natAbs).length c6n, .slice A18 (digs 4294967296 L).length c18], .int .i64 0]) (by simp [results, Tryz.results26, go_sem, C0, C1, C2]) rfl ⟨_, rfl, isQ_mk k9 d9 (by rw [HQN.out]) (by rw [HQN.out]) HQD.out, freshQ_mk f6n_ (n18f.mono n18z_), bb9⟩
set_option maxHeartbeats 1600000 in
set_option maxRecDepth 100000 in
theorem fmake_zero (a0 : Value) (n : Int) (a1 : Value) (d : Int) (w : World) (h0 : IsZ w a0 n) (h1 : IsZ w a1 d) (hd : d = 0) :
    Calls Tryz.prog 26 #[a0, a1] w (RetQN 3 w) := by
  obtain ⟨u0, rfl, s0⟩ := h0
  obtain ⟨A0, c0, rfl, _⟩ := id s0
  obtain ⟨u1, rfl, s1⟩ := h1
  obtain ⟨A1, c1, rfl, _⟩ := id s1
  have HS : Hid ((0 : Int) = ordz d 0) := (ordz_eq hd).symm
  clear hd
  go_enter Tryz.func26, Tryz.ntmps26
  go_upto_region 1 with (fail)
  obtain ⟨wx, hwx, bb, B0, B1, BR0, hsz⟩ := vars3 w 25 25 27 #[.bool (ngB n), .slice A0 (digs 4294967296 (n).natAbs).length c0] #[.bool (ngB d), .slice A1 (digs 4294967296 (d).natAbs).length c1] #[.bool false, .slice none 0 0, .slice none 0 0]
  rw [hwx]
  clear hwx
  have k0s := s0.below bb
  have k0 : IsZ wx (.agg #[.bool (ngB n), .slice A0 (digs 4294967296 (n).natAbs).length c0]) (n) := isZ_mk k0s rfl rfl
  have k1s := s1.below bb
  have k1 : IsZ wx (.agg #[.bool (ngB d), .slice A1 (digs 4294967296 (d).natAbs).length c1]) (d) := isZ_mk k1s rfl rfl
  have hsz0 := bb.size
  have sB := bb.size
  refine flowp 3 [Pd.eq (.agg #[.bool (ngB d), .slice A1 (digs 4294967296 (d).natAbs).length c1]), Pd.eq (.int .i64 0), Pd.eq (.bool true)] (by kernel_rfl) ?ob17 ?done17
  case ob17 =>
    refine And.intro (ob_load rfl (wt_none rfl) (ev_far rfl rfl) (fun w2 hb => run_loadAll Tryz.underlying25 rfl (by kernel_rfl) (B1.below hb)) (fun _ _ => rfl)) ?_
    refine And.intro (ob_call1 rfl Tryz.func67 (by kernel_rfl) (wt_none rfl) (ev_dep (j := 0) (by kernel_rfl) rfl rfl) (fun w2 u0 hb h0 => by obtain rfl := h0; exact (sign_any _ d 0 _ (k1.below hb) HS.out).mono fun e w3 h => RetV.pd h)) ?_
    refine And.intro (ob_bin rfl (wt_none rfl) (ev_dep (j := 1) (by kernel_rfl) rfl rfl) (ev_const _) (fun _ _ _ hx hy => ⟨.bool ((0 : Int) == 0), by rw [hx, hy]; exact bin_eql_int _ _ _ _ _, congrArg Value.bool (by decide)⟩)) ?_
    trivial
  case done17 =>
    refine fun w1 hb1 v0 h0 v1 h1 v2 h2 b hbf => ?_
    obtain rfl := h0; obtain rfl := h1; obtain rfl := h2
    simp only [Act.put, List.setIfInBounds_toArray, List.set_cons_zero, List.set_cons_succ] at hbf
    subst hbf
    replace B0 := B0.below hb1
    replace k0s := k0s.below hb1
    replace k0 := k0.below hb1
    replace B1 := B1.below hb1
    replace k1s := k1s.below hb1
    replace k1 := k1.below hb1
    replace BR0 := BR0.below hb1
    replace bb := bb.trans (hb1.mono bb.size)
    have hsz1 := bb.size
    refine ops_done ?_
    have sB := bb.size
    go_upto_region 2 with (fail)
    refine flowp 1 [Pd.eq (.agg #[.bool false, .slice none 0 0, .slice none 0 0])] (by kernel_rfl) ?ob18 ?done18
    case ob18 =>
      refine And.intro (ob_build0 (v := .agg #[.bool false, .slice none 0 0, .slice none 0 0]) rfl (wt_none rfl) (fun _ => by kernel_rfl) (fun _ => rfl)) ?_
      trivial
    case done18 =>
      refine fun w2 hb2 v0 h0 b hbf => ?_
      obtain rfl := h0
      simp only [Act.put, List.setIfInBounds_toArray, List.set_cons_zero, List.set_cons_succ] at hbf
      subst hbf
      replace B0 := B0.below hb2
      replace k0s := k0s.below hb2
      replace k0 := k0.below hb2
      replace B1 := B1.below hb2
      replace k1s := k1s.below hb2
      replace k1 := k1.below hb2
      replace BR0 := BR0.below hb2
      replace bb := bb.trans (hb2.mono bb.size)
      have hsz2 := bb.size
      refine ops_store (i := 1) rfl rfl rfl rfl rfl rfl (cells := [.bool false, .slice none 0 0, .slice none 0 0]) rfl BR0 rfl (by kernel_rfl) (one3 rfl rfl rfl) fun w9 hg9 B9 => ?_
      have bb9 := bb.trans ((Below.refl _ _).grown hg9 bb.size (fun g hg => by injection hg with hg; omega))
      obtain ⟨C0, C1, C2, _, _, _⟩ := three B9
      refine ops_assign (i := 2) (.int .i64 3) rfl rfl rfl rfl rfl fun b hbf => ?_
      simp only [Act.put, List.setIfInBounds_toArray, List.set_cons_zero, List.set_cons_succ] at hbf
      subst hbf
      refine ops_done ?_
      go_wp2
      exact bodyPost_ret (v := .tuple #[.agg #[.bool false, .slice none 0 0, .slice none 0 0], .int .i64 3]) (by simp [results, Tryz.results26, go_sem, C0, C1, C2]) rfl ⟨rfl, bb9⟩
set_option maxHeartbeats 1600000 in
set_option maxRecDepth 100000 in
theorem of8_any (n : Int) (w : World) (h1 : -9223372036854775808 ≤ n) (h2 : n ≤ 9223372036854775807) :
    Calls Tryz.prog 51 #[.int .i64 n] w (RetQ (n : Rat) w) := by
  obtain ⟨Q, hQ⟩ : ∃ Q, Q = (n : Rat) := ⟨_, rfl⟩
  have HQ0 : Hid ((n : Rat) = Q) := hQ.symm
  have HQN : Hid (Q.num = n) := by show _ = _; rw [hQ]; exact Rat.num_intCast n
  have HQD : Hid (Q.den = 1) := by show _ = _; rw [hQ]; exact Rat.den_intCast n
  clear hQ
  go_enter Tryz.func51, Tryz.ntmps51
  go_upto_region 1 with (fail)
  obtain ⟨wx, hwx, bb, BR0, hsz⟩ := vars1 w 27 #[.bool false, .slice none 0 0, .slice none 0 0]
  rw [hwx]
  clear hwx
  have hsz0 := bb.size
  have sB := bb.size
  refine flowp 4 [Pd.eq (.int .i64 n), pz ((Q).num) wx.heap.size, ps .u64 (digs 4294967296 (Q).den) wx.heap.size, pq (Q) wx.heap.size] (by kernel_rfl) ?ob19 ?done19
  case ob19 =>
    refine And.intro (ob_move rfl (wt_none rfl) (ev_far rfl rfl) (fun _ _ h => h)) ?_
    refine And.intro (ob_call1 rfl Tryz.func87 (by kernel_rfl) (wt_none rfl) (ev_dep (j := 0) (by kernel_rfl) rfl rfl) (fun w2 u0 hb h0 => by obtain rfl := h0; exact (zof_any n _ h1 h2).mono fun e w3 h => RetZ.pd (RetZ.to h HQN.out.symm) hb.size)) ?_
    refine And.intro (ob_call1 rfl Tryz.func79 (by kernel_rfl) (wt_none rfl) (ev_const _) (fun w2 u0 hb h0 => by obtain rfl := h0; exact (of_any 1 1 _ rfl (by omega)).mono fun e w3 h => RetS.pd (RetS.to h (congrArg (digs 4294967296) HQD.out.symm)) hb.size)) ?_
    refine And.intro (ob_build2b rfl (wt_none rfl) (ev_dep (j := 1) (by kernel_rfl) rfl rfl) (ev_dep (j := 2) (by kernel_rfl) rfl rfl) (fun w2 u v hb hu hv => by obtain ⟨u7, rfl, hu7⟩ := hu.1; obtain ⟨A7, c7, rfl, _⟩ := id hu7; obtain ⟨A8, c8, rfl, _⟩ := id hv.1; exact ⟨.agg #[.bool (ngB (Q).num), .slice A7 (digs 4294967296 (Q).num.natAbs).length c7, .slice A8 (digs 4294967296 (Q).den).length c8], by kernel_rfl, ⟨⟨_, _, rfl, hu7, hv.1⟩, freshQ_mk (hu.2 _ _ rfl) hv.2⟩⟩)) ?_
    trivial
  case done19 =>
    refine fun w1 hb1 v0 h0 v1 h1 v2 h2 v3 h3 b hbf => ?_
    obtain rfl := h0
    obtain ⟨q1, f1⟩ := h1
    obtain ⟨q2, f2⟩ := h2
    obtain ⟨q3, f3⟩ := h3
    simp only [Act.put, List.setIfInBounds_toArray, List.set_cons_zero, List.set_cons_succ] at hbf
    subst hbf
    replace BR0 := BR0.below hb1
    replace bb := bb.trans (hb1.mono bb.size)
    have hsz1 := bb.size
    have s_1 := sB
    have s_2 := sB
    have s_3 := sB
    obtain ⟨u3, t3, rfl, q3, d3⟩ := q3
    obtain ⟨A9, c9, rfl, _⟩ := id q3
    obtain ⟨D9, e9, rfl, _⟩ := id d3
    refine ops_store (i := 4) rfl rfl rfl rfl rfl rfl (cells := [.bool (ngB (Q).num), .slice A9 (digs 4294967296 (Q).num.natAbs).length c9, .slice D9 (digs 4294967296 (Q).den).length e9]) rfl BR0 rfl (by kernel_rfl) (one3 rfl rfl rfl) fun w9 hg9 B9 => ?_
    have k9 := off q3 BR0 no_ints3 hg9
    have d9 := off d3 BR0 no_ints3 hg9
    have f9 := f3.mono (show w.heap.size ≤ _ from s_3)
    have bb9 := bb.trans ((Below.refl _ _).grown hg9 bb.size (fun g hg => by injection hg with hg; omega))
    obtain ⟨C0, C1, C2, _, _, _⟩ := three B9
    refine ops_done ?_
    go_wp2
    rw [HQ0.out]
    exact bodyPost_ret (v := .agg #[.bool (ngB (Q).num), .slice A9 (digs 4294967296 (Q).num.natAbs).length c9, .slice D9 (digs 4294967296 (Q).den).length e9]) (by simp [results, Tryz.results51, go_sem, C0, C1, C2]) rfl ⟨_, rfl, ⟨_, _, rfl, k9, d9⟩, f9, bb9⟩
end Go.Proofs.YtpcllhdfalebbaaGreatDoor.rat
