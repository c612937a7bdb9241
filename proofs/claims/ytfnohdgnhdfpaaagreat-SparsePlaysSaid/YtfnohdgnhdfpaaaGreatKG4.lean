/- The document's own fractions: Low. Condition: as each says.
The document's own Clean of fractions. Condition: as it says.
What RatMakes wants: a slice cut short, the least of two lengths. No program stands here.
Fractions: what the program reckons (sums over what the lower parts have in common, products put into lowest terms crosswise, the order by products). Mathematics alone.
Package rat: its own contracts, each said of fractions: what its functions stand on, Neg, Sign. Condition: as each says.
Package rat: its own contracts, each said of fractions: Add, Sub, Cmp. Condition: as each says.
Package rat: its own contracts, each said of fractions: Make, Of, Frac. Condition: as each says.
Package rat: its own contracts, each said of fractions: Same, One, May. Condition: as each says.
The document's own fractions: Add, Sub, Sign, Cmp. Condition: as each says.
The document's own folds of fractions: Sum, Product. Condition: as each says.
The document's own folds of fractions: Whole, Pow. Condition: as each says.
An argument as a slice of fractions; its elements loaded. Condition: as each says.
Rows of fractions grown in a region that draws its order. Condition: as each says.
The document's Shares. Condition: as it says.
An argument as a slice of ints. Condition: it can be read as data.
Rows of ints that the call makes by append.
The document's sum of two whole numbers lies in new memory. Condition: sizes are within bounds.
The document's Of of a whole number and of a fraction: the answer lies in new memory. Condition: sizes are within bounds.
few: two rows of fractions out of an argument. Condition: as it says.
Folds of fractions: the least and the greatest one, shares are a whole, a mean lies between, sums one by one, sorting. Mathematics alone.
Elements of a row of fractions whose place is told.
A copy of ints that a region makes: an empty row, and an append to it.
Package sparse: among, made, cells, Size, Count, New. Condition: as each says.
Rows written out in a region: two fractions, two rows of fractions; as obligations of its flow. Condition: as each says.
Rows of fractions: sums, products with a row, where noughts and units begin. Mathematics alone.
Tables of fractions: products, what is turned, the table that changes nothing. Mathematics alone.
Few: two rows of fractions out of an argument. Condition: as it says.
Tables: rows of rows of fractions, as they come in, as a call makes them by append, or by make. Condition: as each says.
A region that draws its order, a chain of whose operations may come behind the first store and reads what was there: the stores write new variables alone, so it yields the same then. No program stands here.
Rows of fractions that the call makes at their full length: one block, written element by element; calls through a function's value. Condition: as each says.
Rows that a call makes, and hands on: words for its end. Condition: as each says. -/
import Derived.Test.YtfnohdgnhdfpaaaGreatKG3
import Derived.Deep.Slices
import Derived.BigRegion
import Derived.WalkSpells
import Derived.OrdersHeld
namespace Go.Proofs.YtfnohdgnhdfpaaaGreat.rat
open Go.RowKit Go.Proofs.YtfnohdgnhdfpaaaGreat.num Go.Proofs.YtfnohdgnhdfpaaaGreat.mem Go.Proofs.YtfnohdgnhdfpaaaGreat.nat Go.Proofs.YtfnohdgnhdfpaaaGreat.txt Go.Proofs.YtfnohdgnhdfpaaaGreat.str Go.Proofs.YtfnohdgnhdfpaaaGreat.flow Go.Proofs.YtfnohdgnhdfpaaaGreat.whl
set_option linter.unusedVariables false
def psn (k : IntKind) (l : List Nat) : Pd := ⟨fun w v => IsS w k v l, fun h hb => h.below hb⟩
theorem IsQ.drew {w : World} {v : Value} {q : Rat} (h : IsQ w v q) : IsQ w.drew v q := by
  obtain ⟨u, t, e, h1, h2⟩ := h
  exact ⟨u, t, e, h1.drew, h2.drew⟩
theorem IsP.drew {w : World} {v : Value} {q : Rat} (h : IsP w v q) : IsP w.drew v q := by
  obtain ⟨u, t, e, h1, h2⟩ := h
  exact ⟨u, t, e, h1.drew, h2.drew⟩
set_option maxHeartbeats 1600000 in
set_option maxRecDepth 100000 in
theorem rlow_any (a0 : Value) (z : Int) (a1 : Value) (d : Nat) (w : World) (h0 : IsR w a0 z) (h1 : IsS w .i64 a1 (digs 10000 d)) (hd : d ≠ 0) (hl : lenZ z ≤ 30000) (hl2 : (digs 4294967296 d).length ≤ 30000) :
    Calls Tryz.prog 86 #[a0, a1] w (RetPF (mkRat z d) w) := by
  have HL : Hid ((digs 10000 z.natAbs).length ≤ 100000) := Nat.le_trans (lenZ_dec z) (by omega)
  have HL2 : Hid ((digs 10000 d).length ≤ 100000) := Nat.le_trans (dec_le d) (by omega)
  obtain ⟨G, hG⟩ : ∃ G, G = Nat.gcd z.natAbs d := ⟨_, rfl⟩
  obtain ⟨X, hX⟩ : ∃ X, X = z.natAbs / G := ⟨_, rfl⟩
  obtain ⟨Y, hY⟩ : ∃ Y, Y = d / G := ⟨_, rfl⟩
  have hGp : 0 < G := by rw [hG]; exact Nat.gcd_pos_of_pos_right _ (by omega)
  have HGl : Hid ((digs 10000 G).length ≤ 100000) := Nat.le_trans (digs_len_mono (by omega) (by rw [hG]; exact Nat.le_of_dvd (by omega) (Nat.gcd_dvd_right _ _))) HL2.out
  have HQN : Hid ((mkRat z d).num.natAbs = X) := by show _ = _; rw [hX, hG]; exact mk_num z hd
  have HQD : Hid ((mkRat z d).den = Y) := by show _ = _; rw [hY, hG]; exact mk_den z hd
  have HQS := Lib.hid (mk_neg z hd)
  have HXp : z < 0 → 0 < X := by intro hz; rw [hX]; exact Nat.div_pos (Nat.le_of_dvd (by omega) (by rw [hG]; exact Nat.gcd_dvd_left _ _)) hGp
  have HG := Lib.hid hG.symm
  have HX := Lib.hid hX.symm
  have HY := Lib.hid hY.symm
  clear hG hX hY
  rcases hs0 : ngB z with _ | _
  · obtain ⟨u0, rfl, s0⟩ := h0
    obtain ⟨A0, c0, rfl, _⟩ := id s0
    have s1 := h1
    obtain ⟨A1, c1, rfl, _⟩ := id s1
    go_enter Tryz.func86, Tryz.ntmps86
    go_upto_region 1 with (fail)
    obtain ⟨wx, hwx, bb, B0, BR0, hsz⟩ := vars2 w 53 55 #[.bool false, .slice A0 (digs 10000 (z).natAbs).length c0] #[.bool false, .slice none 0 0, .slice none 0 0]
    rw [hwx]
    clear hwx
    have k0s := s0.below bb
    have k0 : IsR wx (.agg #[.bool false, .slice A0 (digs 10000 (z).natAbs).length c0]) (z) := isR_mk k0s rfl hs0.symm
    have k1 := s1.below bb
    have hsz0 := bb.size
    have sB := bb.size
    refine flowp 5 [Pd.eq (.pointer (some ⟨w.heap.size, 1, none⟩)), Pd.eq (.slice A0 (digs 10000 (z).natAbs).length c0), Pd.eq (.slice A1 (digs 10000 d).length c1), psn .i64 (digs 10000 G), psn .i64 (digs 10000 G)] (by kernel_rfl) ?ob1 ?done1
    case ob1 =>
      refine And.intro (ob_fieldAddr rfl (wt_none rfl) (ev_far rfl rfl) (fun _ => by kernel_rfl) (fun _ => rfl)) ?_
      refine And.intro (ob_load rfl (wt_none rfl) (ev_dep (j := 0) (by kernel_rfl) rfl rfl) (fun w2 hb => run_load1 Tryz.underlying51 rfl ((B0.below hb).cell 1)) (fun _ _ => rfl)) ?_
      refine And.intro (ob_move rfl (wt_none rfl) (ev_far rfl rfl) (fun _ _ h => h)) ?_
      refine And.intro (ob_call2 rfl Tryz.func132 (by kernel_rfl) (wt_none rfl) (ev_dep (j := 1) (by kernel_rfl) rfl rfl) (ev_dep (j := 2) (by kernel_rfl) rfl rfl) (fun w2 u0 u1 hb h0 h1 => by obtain rfl := h0; obtain rfl := h1; exact (HG.out ▸ refGcd_any _ _ _ _ _ (k0s.below hb) (k1.below hb) HL.out HL2.out).mono fun e w3 h => h)) ?_
      refine And.intro (ob_assign rfl (wt_none rfl) (ev_dep (j := 3) (by kernel_rfl) rfl rfl) (fun _ _ h => h)) ?_
      trivial
    case done1 =>
      refine fun w11 hb11 v0 h0 v1 h1 v2 h2 v3 h3 v4 h4 b hbf => ?_
      obtain rfl := h0; obtain rfl := h1; obtain rfl := h2
      have q3 := h3
      have q4 := h4
      simp only [Act.put, List.setIfInBounds_toArray, List.set_cons_zero, List.set_cons_succ] at hbf
      subst hbf
      replace B0 := B0.below hb11
      replace k0s := k0s.below hb11
      replace k0 := k0.below hb11
      replace BR0 := BR0.below hb11
      replace k1 := k1.below hb11
      replace bb := bb.trans (hb11.mono bb.size)
      have hsz11 := bb.size
      refine ops_done ?_
      obtain ⟨A5, c5, rfl, _⟩ := id q4
      have kg := q4
      have sB := bb.size
      go_upto_region 2 with (fail)
      refine flowp 9 [Pd.eq (.pointer (some ⟨w.heap.size, 1, none⟩)), Pd.eq (.slice A0 (digs 10000 (z).natAbs).length c0), Pd.eq (.slice A5 (digs 10000 G).length c5), pt2 .i64 (digs 10000 X) (digs 10000 (z.natAbs % G)) w11.heap.size, pt2 .i64 (digs 10000 X) (digs 10000 (z.natAbs % G)) w11.heap.size, ps .i64 (digs 10000 X) w11.heap.size, ps .i64 (digs 10000 (z.natAbs % G)) w11.heap.size, ps .i64 (digs 10000 X) w11.heap.size, ps .i64 (digs 10000 (z.natAbs % G)) w11.heap.size] (by kernel_rfl) ?ob2 ?done2
      case ob2 =>
        refine And.intro (ob_fieldAddr rfl (wt_none rfl) (ev_far rfl rfl) (fun _ => by kernel_rfl) (fun _ => rfl)) ?_
        refine And.intro (ob_load rfl (wt_none rfl) (ev_dep (j := 0) (by kernel_rfl) rfl rfl) (fun w2 hb => run_load1 Tryz.underlying51 rfl ((B0.below hb).cell 1)) (fun _ _ => rfl)) ?_
        refine And.intro (ob_move rfl (wt_none rfl) (ev_far rfl rfl) (fun _ _ h => h)) ?_
        refine And.intro (ob_call2 rfl Tryz.func133 (by kernel_rfl) (wt_none rfl) (ev_dep (j := 1) (by kernel_rfl) rfl rfl) (ev_dep (j := 2) (by kernel_rfl) rfl rfl) (fun w2 u0 u1 hb h0 h1 => by obtain rfl := h0; obtain rfl := h1; exact (HX.out ▸ refDiv_any _ _ z.natAbs G _ (k0s.below hb) (kg.below hb) HL.out HGl.out hGp).mono fun e w3 h => RetSS.pd h hb.size)) ?_
        refine And.intro (ob_move rfl (wt_none rfl) (ev_dep (j := 3) (by kernel_rfl) rfl rfl) (fun _ _ h => h)) ?_
        refine And.intro (ob_extract rfl (wt_none rfl) (ev_dep (j := 4) (by kernel_rfl) rfl rfl) (fun w2 u hu => by obtain ⟨v, u, rfl, q1, q2, q3, q4⟩ := hu; exact ⟨v, rfl, q1, q3⟩)) ?_
        refine And.intro (ob_extract rfl (wt_none rfl) (ev_dep (j := 4) (by kernel_rfl) rfl rfl) (fun w2 u hu => by obtain ⟨v, u, rfl, q1, q2, q3, q4⟩ := hu; exact ⟨u, rfl, q2, q4⟩)) ?_
        refine And.intro (ob_assign rfl (wt_none rfl) (ev_dep (j := 5) (by kernel_rfl) rfl rfl) (fun _ _ h => h)) ?_
        refine And.intro (ob_assign rfl (wt_none rfl) (ev_dep (j := 6) (by kernel_rfl) rfl rfl) (fun _ _ h => h)) ?_
        trivial
      case done2 =>
        refine fun w12 hb12 v0 h0 v1 h1 v2 h2 v3 h3 v4 h4 v5 h5 v6 h6 v7 h7 v8 h8 b hbf => ?_
        obtain rfl := h0; obtain rfl := h1; obtain rfl := h2
        clear h3
        clear h4
        obtain ⟨q5, f5⟩ := h5
        obtain ⟨q6, f6⟩ := h6
        obtain ⟨q7, f7⟩ := h7
        obtain ⟨q8, f8⟩ := h8
        simp only [Act.put, List.setIfInBounds_toArray, List.set_cons_zero, List.set_cons_succ] at hbf
        subst hbf
        replace B0 := B0.below hb12
        replace k0s := k0s.below hb12
        replace k0 := k0.below hb12
        replace BR0 := BR0.below hb12
        replace k1 := k1.below hb12
        replace kg := kg.below hb12
        replace bb := bb.trans (hb12.mono bb.size)
        have hsz12 := bb.size
        have s_5 := sB
        have s_6 := sB
        have s_7 := sB
        have s_8 := sB
        refine ops_done ?_
        obtain ⟨A6, c6, rfl, _⟩ := id q7
        have kx := q7
        have kxf := f7
        have kxz_ := s_7
        have sB := bb.size
        go_upto_region 3 with (fail)
        refine flowp 8 [Pd.eq (.slice A1 (digs 10000 d).length c1), Pd.eq (.slice A5 (digs 10000 G).length c5), pt2 .i64 (digs 10000 Y) (digs 10000 (d % G)) w12.heap.size, pt2 .i64 (digs 10000 Y) (digs 10000 (d % G)) w12.heap.size, ps .i64 (digs 10000 Y) w12.heap.size, ps .i64 (digs 10000 (d % G)) w12.heap.size, ps .i64 (digs 10000 Y) w12.heap.size, ps .i64 (digs 10000 (d % G)) w12.heap.size] (by kernel_rfl) ?ob3 ?done3
        case ob3 =>
          refine And.intro (ob_move rfl (wt_none rfl) (ev_far rfl rfl) (fun _ _ h => h)) ?_
          refine And.intro (ob_move rfl (wt_none rfl) (ev_far rfl rfl) (fun _ _ h => h)) ?_
          refine And.intro (ob_call2 rfl Tryz.func133 (by kernel_rfl) (wt_none rfl) (ev_dep (j := 0) (by kernel_rfl) rfl rfl) (ev_dep (j := 1) (by kernel_rfl) rfl rfl) (fun w2 u0 u1 hb h0 h1 => by obtain rfl := h0; obtain rfl := h1; exact (HY.out ▸ refDiv_any _ _ d G _ (k1.below hb) (kg.below hb) HL2.out HGl.out hGp).mono fun e w3 h => RetSS.pd h hb.size)) ?_
          refine And.intro (ob_move rfl (wt_none rfl) (ev_dep (j := 2) (by kernel_rfl) rfl rfl) (fun _ _ h => h)) ?_
          refine And.intro (ob_extract rfl (wt_none rfl) (ev_dep (j := 3) (by kernel_rfl) rfl rfl) (fun w2 u hu => by obtain ⟨v, u, rfl, q1, q2, q3, q4⟩ := hu; exact ⟨v, rfl, q1, q3⟩)) ?_
          refine And.intro (ob_extract rfl (wt_none rfl) (ev_dep (j := 3) (by kernel_rfl) rfl rfl) (fun w2 u hu => by obtain ⟨v, u, rfl, q1, q2, q3, q4⟩ := hu; exact ⟨u, rfl, q2, q4⟩)) ?_
          refine And.intro (ob_assign rfl (wt_none rfl) (ev_dep (j := 4) (by kernel_rfl) rfl rfl) (fun _ _ h => h)) ?_
          refine And.intro (ob_assign rfl (wt_none rfl) (ev_dep (j := 5) (by kernel_rfl) rfl rfl) (fun _ _ h => h)) ?_
          trivial
        case done3 =>
          refine fun w13 hb13 v0 h0 v1 h1 v2 h2 v3 h3 v4 h4 v5 h5 v6 h6 v7 h7 b hbf => ?_
          obtain rfl := h0; obtain rfl := h1
          clear h2
          clear h3
          obtain ⟨q4, f4⟩ := h4
          obtain ⟨q5, f5⟩ := h5
          obtain ⟨q6, f6⟩ := h6
          obtain ⟨q7, f7⟩ := h7
          simp only [Act.put, List.setIfInBounds_toArray, List.set_cons_zero, List.set_cons_succ] at hbf
          subst hbf
          replace B0 := B0.below hb13
          replace k0s := k0s.below hb13
          replace k0 := k0.below hb13
          replace BR0 := BR0.below hb13
          replace k1 := k1.below hb13
          replace kg := kg.below hb13
          replace kx := kx.below hb13
          replace bb := bb.trans (hb13.mono bb.size)
          have hsz13 := bb.size
          have s_4 := sB
          have s_5 := sB
          have s_6 := sB
          have s_7 := sB
          refine ops_done ?_
          obtain ⟨A8, c8, rfl, _⟩ := id q6
          have ky := q6
          have kyf := f6
          have kyz_ := s_6
          have sB := bb.size
          go_upto_region 4 with (fail)
          refine flowp 11 [Pd.eq (.pointer (some ⟨w.heap.size, 0, none⟩)), Pd.eq (.bool false), Pd.eq (.bool false), Pd.any, Pd.any, Pd.any, Pd.eq (.bool false), Pd.eq (.slice A6 (digs 10000 X).length c6), Pd.eq (.agg #[.bool false, .slice A6 (digs 10000 X).length c6]), Pd.eq (.slice A8 (digs 10000 Y).length c8), Pd.eq (.agg #[.bool false, .slice A6 (digs 10000 X).length c6, .slice A8 (digs 10000 Y).length c8])] (by kernel_rfl) ?ob4 ?done4
          case ob4 =>
            refine And.intro (ob_fieldAddr rfl (wt_none rfl) (ev_far rfl rfl) (fun _ => by kernel_rfl) (fun _ => rfl)) ?_
            refine And.intro (ob_load rfl (wt_none rfl) (ev_dep (j := 0) (by kernel_rfl) rfl rfl) (fun w2 hb => run_load1 Tryz.underlying4 rfl ((B0.below hb).cell 0)) (fun _ _ => rfl)) ?_
            refine And.intro (ob_move rfl (wt_none rfl) (ev_dep (j := 1) (by kernel_rfl) rfl rfl) (fun _ _ h => h)) ?_
            refine And.intro (ob_not (wt_dep (c := false) (b := true) (g := 2) rfl (by kernel_rfl) rfl rfl rfl (by exact fun _ _ h => h)) (fun _ => trivial) rfl) ?_
            refine And.intro (ob_not (wt_dep (c := false) (b := true) (g := 2) rfl (by kernel_rfl) rfl rfl rfl (by exact fun _ _ h => h)) (fun _ => trivial) rfl) ?_
            refine And.intro (ob_not (wt_dep (c := false) (b := true) (g := 2) rfl (by kernel_rfl) rfl rfl rfl (by exact fun _ _ h => h)) (fun _ => trivial) rfl) ?_
            refine And.intro (ob_pick (b := false) rfl (wt_none rfl) (ev_dep (j := 2) (by kernel_rfl) rfl rfl) (ev_const _) (fun _ _ h => h)) ?_
            refine And.intro (ob_move rfl (wt_none rfl) (ev_far rfl rfl) (fun _ _ h => h)) ?_
            refine And.intro (ob_build2b rfl (wt_none rfl) (ev_dep (j := 6) (by kernel_rfl) rfl rfl) (ev_dep (j := 7) (by kernel_rfl) rfl rfl) (fun w2 u v hb hu hv => by obtain rfl := hu; obtain rfl := hv; exact ⟨.agg #[.bool false, .slice A6 (digs 10000 X).length c6], by kernel_rfl, rfl⟩)) ?_
            refine And.intro (ob_move rfl (wt_none rfl) (ev_far rfl rfl) (fun _ _ h => h)) ?_
            refine And.intro (ob_build2b rfl (wt_none rfl) (ev_dep (j := 8) (by kernel_rfl) rfl rfl) (ev_dep (j := 9) (by kernel_rfl) rfl rfl) (fun w2 u v hb hu hv => by obtain rfl := hu; obtain rfl := hv; exact ⟨.agg #[.bool false, .slice A6 (digs 10000 X).length c6, .slice A8 (digs 10000 Y).length c8], by kernel_rfl, rfl⟩)) ?_
            trivial
          case done4 =>
            refine fun w14 hb14 v0 h0 v1 h1 v2 h2 v3 h3 v4 h4 v5 h5 v6 h6 v7 h7 v8 h8 v9 h9 v10 h10 b hbf => ?_
            obtain rfl := h0; obtain rfl := h1; obtain rfl := h2; obtain rfl := h6; obtain rfl := h7; obtain rfl := h8; obtain rfl := h9; obtain rfl := h10
            clear h3
            clear h4
            clear h5
            simp only [Act.put, List.setIfInBounds_toArray, List.set_cons_zero, List.set_cons_succ] at hbf
            subst hbf
            replace B0 := B0.below hb14
            replace k0s := k0s.below hb14
            replace k0 := k0.below hb14
            replace BR0 := BR0.below hb14
            replace k1 := k1.below hb14
            replace kg := kg.below hb14
            replace kx := kx.below hb14
            replace ky := ky.below hb14
            replace bb := bb.trans (hb14.mono bb.size)
            have hsz14 := bb.size
            refine ops_store (i := 11) rfl rfl rfl rfl rfl rfl (cells := [.bool false, .slice A6 (digs 10000 X).length c6, .slice A8 (digs 10000 Y).length c8]) rfl BR0 rfl (by kernel_rfl) (one3 rfl rfl rfl) fun w9 hg9 B9 => ?_
            have k9 := off kx BR0 no_ints3 hg9
            have d9 := off ky BR0 no_ints3 hg9
            have bb9 := bb.trans ((Below.refl _ _).grown hg9 bb.size (fun g hg => by injection hg with hg; omega))
            obtain ⟨C0, C1, C2, _, _, _⟩ := three B9
            refine ops_done ?_
            go_wp2
            exact bodyPost_ret (v := .agg #[.bool false, .slice A6 (digs 10000 X).length c6, .slice A8 (digs 10000 Y).length c8]) (by simp [results, Tryz.results86, go_sem, C0, C1, C2]) rfl ⟨_, rfl, isP_mk k9 d9 (by rw [HQS.out, hs0]) HQN.out HQD.out, freshQ_mk (kxf.mono kxz_) (kyf.mono kyz_), bb9⟩
  · obtain ⟨u0, rfl, s0⟩ := h0
    obtain ⟨A0, c0, rfl, _⟩ := id s0
    have s1 := h1
    obtain ⟨A1, c1, rfl, _⟩ := id s1
    go_enter Tryz.func86, Tryz.ntmps86
    go_upto_region 1 with (fail)
    obtain ⟨wx, hwx, bb, B0, BR0, hsz⟩ := vars2 w 53 55 #[.bool true, .slice A0 (digs 10000 (z).natAbs).length c0] #[.bool false, .slice none 0 0, .slice none 0 0]
    rw [hwx]
    clear hwx
    have k0s := s0.below bb
    have k0 : IsR wx (.agg #[.bool true, .slice A0 (digs 10000 (z).natAbs).length c0]) (z) := isR_mk k0s rfl hs0.symm
    have k1 := s1.below bb
    have hsz0 := bb.size
    have sB := bb.size
    refine flowp 5 [Pd.eq (.pointer (some ⟨w.heap.size, 1, none⟩)), Pd.eq (.slice A0 (digs 10000 (z).natAbs).length c0), Pd.eq (.slice A1 (digs 10000 d).length c1), psn .i64 (digs 10000 G), psn .i64 (digs 10000 G)] (by kernel_rfl) ?ob5 ?done5
    case ob5 =>
      refine And.intro (ob_fieldAddr rfl (wt_none rfl) (ev_far rfl rfl) (fun _ => by kernel_rfl) (fun _ => rfl)) ?_
      refine And.intro (ob_load rfl (wt_none rfl) (ev_dep (j := 0) (by kernel_rfl) rfl rfl) (fun w2 hb => run_load1 Tryz.underlying51 rfl ((B0.below hb).cell 1)) (fun _ _ => rfl)) ?_
      refine And.intro (ob_move rfl (wt_none rfl) (ev_far rfl rfl) (fun _ _ h => h)) ?_
      refine And.intro (ob_call2 rfl Tryz.func132 (by kernel_rfl) (wt_none rfl) (ev_dep (j := 1) (by kernel_rfl) rfl rfl) (ev_dep (j := 2) (by kernel_rfl) rfl rfl) (fun w2 u0 u1 hb h0 h1 => by obtain rfl := h0; obtain rfl := h1; exact (HG.out ▸ refGcd_any _ _ _ _ _ (k0s.below hb) (k1.below hb) HL.out HL2.out).mono fun e w3 h => h)) ?_
      refine And.intro (ob_assign rfl (wt_none rfl) (ev_dep (j := 3) (by kernel_rfl) rfl rfl) (fun _ _ h => h)) ?_
      trivial
    case done5 =>
      refine fun w11 hb11 v0 h0 v1 h1 v2 h2 v3 h3 v4 h4 b hbf => ?_
      obtain rfl := h0; obtain rfl := h1; obtain rfl := h2
      have q3 := h3
      have q4 := h4
      simp only [Act.put, List.setIfInBounds_toArray, List.set_cons_zero, List.set_cons_succ] at hbf
      subst hbf
      replace B0 := B0.below hb11
      replace k0s := k0s.below hb11
      replace k0 := k0.below hb11
      replace BR0 := BR0.below hb11
      replace k1 := k1.below hb11
      replace bb := bb.trans (hb11.mono bb.size)
      have hsz11 := bb.size
      refine ops_done ?_
      obtain ⟨A5, c5, rfl, _⟩ := id q4
      have kg := q4
      have sB := bb.size
      go_upto_region 2 with (fail)
      refine flowp 9 [Pd.eq (.pointer (some ⟨w.heap.size, 1, none⟩)), Pd.eq (.slice A0 (digs 10000 (z).natAbs).length c0), Pd.eq (.slice A5 (digs 10000 G).length c5), pt2 .i64 (digs 10000 X) (digs 10000 (z.natAbs % G)) w11.heap.size, pt2 .i64 (digs 10000 X) (digs 10000 (z.natAbs % G)) w11.heap.size, ps .i64 (digs 10000 X) w11.heap.size, ps .i64 (digs 10000 (z.natAbs % G)) w11.heap.size, ps .i64 (digs 10000 X) w11.heap.size, ps .i64 (digs 10000 (z.natAbs % G)) w11.heap.size] (by kernel_rfl) ?ob6 ?done6
      case ob6 =>
        refine And.intro (ob_fieldAddr rfl (wt_none rfl) (ev_far rfl rfl) (fun _ => by kernel_rfl) (fun _ => rfl)) ?_
        refine And.intro (ob_load rfl (wt_none rfl) (ev_dep (j := 0) (by kernel_rfl) rfl rfl) (fun w2 hb => run_load1 Tryz.underlying51 rfl ((B0.below hb).cell 1)) (fun _ _ => rfl)) ?_
        refine And.intro (ob_move rfl (wt_none rfl) (ev_far rfl rfl) (fun _ _ h => h)) ?_
        refine And.intro (ob_call2 rfl Tryz.func133 (by kernel_rfl) (wt_none rfl) (ev_dep (j := 1) (by kernel_rfl) rfl rfl) (ev_dep (j := 2) (by kernel_rfl) rfl rfl) (fun w2 u0 u1 hb h0 h1 => by obtain rfl := h0; obtain rfl := h1; exact (HX.out ▸ refDiv_any _ _ z.natAbs G _ (k0s.below hb) (kg.below hb) HL.out HGl.out hGp).mono fun e w3 h => RetSS.pd h hb.size)) ?_
        refine And.intro (ob_move rfl (wt_none rfl) (ev_dep (j := 3) (by kernel_rfl) rfl rfl) (fun _ _ h => h)) ?_
        refine And.intro (ob_extract rfl (wt_none rfl) (ev_dep (j := 4) (by kernel_rfl) rfl rfl) (fun w2 u hu => by obtain ⟨v, u, rfl, q1, q2, q3, q4⟩ := hu; exact ⟨v, rfl, q1, q3⟩)) ?_
        refine And.intro (ob_extract rfl (wt_none rfl) (ev_dep (j := 4) (by kernel_rfl) rfl rfl) (fun w2 u hu => by obtain ⟨v, u, rfl, q1, q2, q3, q4⟩ := hu; exact ⟨u, rfl, q2, q4⟩)) ?_
        refine And.intro (ob_assign rfl (wt_none rfl) (ev_dep (j := 5) (by kernel_rfl) rfl rfl) (fun _ _ h => h)) ?_
        refine And.intro (ob_assign rfl (wt_none rfl) (ev_dep (j := 6) (by kernel_rfl) rfl rfl) (fun _ _ h => h)) ?_
        trivial
      case done6 =>
        refine fun w12 hb12 v0 h0 v1 h1 v2 h2 v3 h3 v4 h4 v5 h5 v6 h6 v7 h7 v8 h8 b hbf => ?_
        obtain rfl := h0; obtain rfl := h1; obtain rfl := h2
        clear h3
        clear h4
        obtain ⟨q5, f5⟩ := h5
        obtain ⟨q6, f6⟩ := h6
        obtain ⟨q7, f7⟩ := h7
        obtain ⟨q8, f8⟩ := h8
        simp only [Act.put, List.setIfInBounds_toArray, List.set_cons_zero, List.set_cons_succ] at hbf
        subst hbf
        replace B0 := B0.below hb12
        replace k0s := k0s.below hb12
        replace k0 := k0.below hb12
        replace BR0 := BR0.below hb12
        replace k1 := k1.below hb12
        replace kg := kg.below hb12
        replace bb := bb.trans (hb12.mono bb.size)
        have hsz12 := bb.size
        have s_5 := sB
        have s_6 := sB
        have s_7 := sB
        have s_8 := sB
        refine ops_done ?_
        obtain ⟨A6, c6, rfl, _⟩ := id q7
        have kx := q7
        have kxf := f7
        have kxz_ := s_7
        have sB := bb.size
        go_upto_region 3 with (fail)
        refine flowp 8 [Pd.eq (.slice A1 (digs 10000 d).length c1), Pd.eq (.slice A5 (digs 10000 G).length c5), pt2 .i64 (digs 10000 Y) (digs 10000 (d % G)) w12.heap.size, pt2 .i64 (digs 10000 Y) (digs 10000 (d % G)) w12.heap.size, ps .i64 (digs 10000 Y) w12.heap.size, ps .i64 (digs 10000 (d % G)) w12.heap.size, ps .i64 (digs 10000 Y) w12.heap.size, ps .i64 (digs 10000 (d % G)) w12.heap.size] (by kernel_rfl) ?ob7 ?done7
        case ob7 =>
          refine And.intro (ob_move rfl (wt_none rfl) (ev_far rfl rfl) (fun _ _ h => h)) ?_
          refine And.intro (ob_move rfl (wt_none rfl) (ev_far rfl rfl) (fun _ _ h => h)) ?_
          refine And.intro (ob_call2 rfl Tryz.func133 (by kernel_rfl) (wt_none rfl) (ev_dep (j := 0) (by kernel_rfl) rfl rfl) (ev_dep (j := 1) (by kernel_rfl) rfl rfl) (fun w2 u0 u1 hb h0 h1 => by obtain rfl := h0; obtain rfl := h1; exact (HY.out ▸ refDiv_any _ _ d G _ (k1.below hb) (kg.below hb) HL2.out HGl.out hGp).mono fun e w3 h => RetSS.pd h hb.size)) ?_
          refine And.intro (ob_move rfl (wt_none rfl) (ev_dep (j := 2) (by kernel_rfl) rfl rfl) (fun _ _ h => h)) ?_
          refine And.intro (ob_extract rfl (wt_none rfl) (ev_dep (j := 3) (by kernel_rfl) rfl rfl) (fun w2 u hu => by obtain ⟨v, u, rfl, q1, q2, q3, q4⟩ := hu; exact ⟨v, rfl, q1, q3⟩)) ?_
          refine And.intro (ob_extract rfl (wt_none rfl) (ev_dep (j := 3) (by kernel_rfl) rfl rfl) (fun w2 u hu => by obtain ⟨v, u, rfl, q1, q2, q3, q4⟩ := hu; exact ⟨u, rfl, q2, q4⟩)) ?_
          refine And.intro (ob_assign rfl (wt_none rfl) (ev_dep (j := 4) (by kernel_rfl) rfl rfl) (fun _ _ h => h)) ?_
          refine And.intro (ob_assign rfl (wt_none rfl) (ev_dep (j := 5) (by kernel_rfl) rfl rfl) (fun _ _ h => h)) ?_
          trivial
        case done7 =>
          refine fun w13 hb13 v0 h0 v1 h1 v2 h2 v3 h3 v4 h4 v5 h5 v6 h6 v7 h7 b hbf => ?_
          obtain rfl := h0; obtain rfl := h1
          clear h2
          clear h3
          obtain ⟨q4, f4⟩ := h4
          obtain ⟨q5, f5⟩ := h5
          obtain ⟨q6, f6⟩ := h6
          obtain ⟨q7, f7⟩ := h7
          simp only [Act.put, List.setIfInBounds_toArray, List.set_cons_zero, List.set_cons_succ] at hbf
          subst hbf
          replace B0 := B0.below hb13
          replace k0s := k0s.below hb13
          replace k0 := k0.below hb13
          replace BR0 := BR0.below hb13
          replace k1 := k1.below hb13
          replace kg := kg.below hb13
          replace kx := kx.below hb13
          replace bb := bb.trans (hb13.mono bb.size)
          have hsz13 := bb.size
          have s_4 := sB
          have s_5 := sB
          have s_6 := sB
          have s_7 := sB
          refine ops_done ?_
          obtain ⟨A8, c8, rfl, _⟩ := id q6
          have ky := q6
          have kyf := f6
          have kyz_ := s_6
          have HXl : Hid (decide ((0 : Int) < (((digs 10000 X).length : Nat) : Int)) = true) := by show _ = _; have := (digs_len0 (B := 10000) (by omega) (x := X)).1; have := HXp (ngB_true hs0); exact decide_eq_true (by omega)
          have sB := bb.size
          go_upto_region 4 with (fail)
          refine flowp 11 [Pd.eq (.pointer (some ⟨w.heap.size, 0, none⟩)), Pd.eq (.bool true), Pd.eq (.bool true), Pd.eq (.slice A6 (digs 10000 X).length c6), Pd.eq (.int .i64 (((digs 10000 X).length : Nat) : Int)), Pd.eq (.bool true), Pd.eq (.bool true), Pd.eq (.slice A6 (digs 10000 X).length c6), Pd.eq (.agg #[.bool true, .slice A6 (digs 10000 X).length c6]), Pd.eq (.slice A8 (digs 10000 Y).length c8), Pd.eq (.agg #[.bool true, .slice A6 (digs 10000 X).length c6, .slice A8 (digs 10000 Y).length c8])] (by kernel_rfl) ?ob8 ?done8
          case ob8 =>
            refine And.intro (ob_fieldAddr rfl (wt_none rfl) (ev_far rfl rfl) (fun _ => by kernel_rfl) (fun _ => rfl)) ?_
            refine And.intro (ob_load rfl (wt_none rfl) (ev_dep (j := 0) (by kernel_rfl) rfl rfl) (fun w2 hb => run_load1 Tryz.underlying4 rfl ((B0.below hb).cell 0)) (fun _ _ => rfl)) ?_
            refine And.intro (ob_move rfl (wt_none rfl) (ev_dep (j := 1) (by kernel_rfl) rfl rfl) (fun _ _ h => h)) ?_
            refine And.intro (ob_move rfl (wt_dep (c := true) (b := true) (g := 2) rfl (by kernel_rfl) rfl rfl rfl (by exact fun _ _ h => h)) (ev_far rfl rfl) (fun _ _ h => h)) ?_
            refine And.intro (ob_len rfl (wt_dep (c := true) (b := true) (g := 2) rfl (by kernel_rfl) rfl rfl rfl (by exact fun _ _ h => h)) (ev_dep (j := 3) (by kernel_rfl) rfl rfl) (fun _ _ hx => ⟨_, by rw [hx]; exact len_slice Tryz.underlying51 _ _ _ _, rfl⟩)) ?_
            refine And.intro (ob_bin rfl (wt_dep (c := true) (b := true) (g := 2) rfl (by kernel_rfl) rfl rfl rfl (by exact fun _ _ h => h)) (ev_dep (j := 4) (by kernel_rfl) rfl rfl) (ev_const _) (fun _ _ _ hx hy => ⟨.bool true, by rw [hx, hy, bin_gtr_int, HXl.out], rfl⟩)) ?_
            refine And.intro (ob_pick (b := true) rfl (wt_none rfl) (ev_dep (j := 2) (by kernel_rfl) rfl rfl) (ev_dep (j := 5) (by kernel_rfl) rfl rfl) (fun _ _ h => h)) ?_
            refine And.intro (ob_move rfl (wt_none rfl) (ev_far rfl rfl) (fun _ _ h => h)) ?_
            refine And.intro (ob_build2b rfl (wt_none rfl) (ev_dep (j := 6) (by kernel_rfl) rfl rfl) (ev_dep (j := 7) (by kernel_rfl) rfl rfl) (fun w2 u v hb hu hv => by obtain rfl := hu; obtain rfl := hv; exact ⟨.agg #[.bool true, .slice A6 (digs 10000 X).length c6], by kernel_rfl, rfl⟩)) ?_
            refine And.intro (ob_move rfl (wt_none rfl) (ev_far rfl rfl) (fun _ _ h => h)) ?_
            refine And.intro (ob_build2b rfl (wt_none rfl) (ev_dep (j := 8) (by kernel_rfl) rfl rfl) (ev_dep (j := 9) (by kernel_rfl) rfl rfl) (fun w2 u v hb hu hv => by obtain rfl := hu; obtain rfl := hv; exact ⟨.agg #[.bool true, .slice A6 (digs 10000 X).length c6, .slice A8 (digs 10000 Y).length c8], by kernel_rfl, rfl⟩)) ?_
            trivial
          case done8 =>
            refine fun w14 hb14 v0 h0 v1 h1 v2 h2 v3 h3 v4 h4 v5 h5 v6 h6 v7 h7 v8 h8 v9 h9 v10 h10 b hbf => ?_
            obtain rfl := h0; obtain rfl := h1; obtain rfl := h2; obtain rfl := h3; obtain rfl := h4; obtain rfl := h5; obtain rfl := h6; obtain rfl := h7; obtain rfl := h8; obtain rfl := h9; obtain rfl := h10
            simp only [Act.put, List.setIfInBounds_toArray, List.set_cons_zero, List.set_cons_succ] at hbf
            subst hbf
            replace B0 := B0.below hb14
            replace k0s := k0s.below hb14
            replace k0 := k0.below hb14
            replace BR0 := BR0.below hb14
            replace k1 := k1.below hb14
            replace kg := kg.below hb14
            replace kx := kx.below hb14
            replace ky := ky.below hb14
            replace bb := bb.trans (hb14.mono bb.size)
            have hsz14 := bb.size
            refine ops_store (i := 11) rfl rfl rfl rfl rfl rfl (cells := [.bool true, .slice A6 (digs 10000 X).length c6, .slice A8 (digs 10000 Y).length c8]) rfl BR0 rfl (by kernel_rfl) (one3 rfl rfl rfl) fun w9 hg9 B9 => ?_
            have k9 := off kx BR0 no_ints3 hg9
            have d9 := off ky BR0 no_ints3 hg9
            have bb9 := bb.trans ((Below.refl _ _).grown hg9 bb.size (fun g hg => by injection hg with hg; omega))
            obtain ⟨C0, C1, C2, _, _, _⟩ := three B9
            refine ops_done ?_
            go_wp2
            exact bodyPost_ret (v := .agg #[.bool true, .slice A6 (digs 10000 X).length c6, .slice A8 (digs 10000 Y).length c8]) (by simp [results, Tryz.results86, go_sem, C0, C1, C2]) rfl ⟨_, rfl, isP_mk k9 d9 (by rw [HQS.out, hs0]) HQN.out HQD.out, freshQ_mk (kxf.mono kxz_) (kyf.mono kyz_), bb9⟩
set_option maxHeartbeats 1600000 in
set_option maxRecDepth 100000 in
theorem qback_any (a0 : Value) (q : Rat) (w : World) (h0 : IsP w a0 q) (hl : lenQ q 30000) :
    Calls Tryz.prog 22 #[a0] w (RetQ q w) := by
  obtain ⟨u0, t0, rfl, s0, r0⟩ := h0
  obtain ⟨A0, c0, rfl, _⟩ := id s0
  obtain ⟨D0, e0, rfl, _⟩ := id r0
  go_enter Tryz.func22, Tryz.ntmps22
  go_upto_region 1 with (fail)
  obtain ⟨wx, hwx, bb, B0, BR0, hsz⟩ := vars2 w 55 44 #[.bool (ngB (q).num), .slice A0 (digs 10000 (q).num.natAbs).length c0, .slice D0 (digs 10000 (q).den).length e0] #[.bool false, .slice none 0 0, .slice none 0 0]
  rw [hwx]
  clear hwx
  have k0s := s0.below bb
  have k0d := r0.below bb
  have k0z : IsR wx (.agg #[.bool (ngB (q).num), .slice A0 (digs 10000 (q).num.natAbs).length c0]) (q).num := ⟨_, rfl, k0s⟩
  have k0 : IsP wx (.agg #[.bool (ngB (q).num), .slice A0 (digs 10000 (q).num.natAbs).length c0, .slice D0 (digs 10000 (q).den).length e0]) (q) := ⟨_, _, rfl, k0s, k0d⟩
  have hsz0 := bb.size
  have sB := bb.size
  refine flow 7 [Pd.eq (.pointer (some ⟨w.heap.size, 0, none⟩)), Pd.eq (.agg #[.bool (ngB (q).num), .slice A0 (digs 10000 (q).num.natAbs).length c0]), pz ((q).num) wx.heap.size, Pd.eq (.pointer (some ⟨w.heap.size, 2, none⟩)), Pd.eq (.slice D0 (digs 10000 (q).den).length e0), ps .u64 (digs 4294967296 (q).den) wx.heap.size, pq (q) wx.heap.size] (by kernel_rfl) (by kernel_rfl) ?ob10 ?done10
  case ob10 =>
    refine And.intro (ob_fieldAddr rfl (wt_none rfl) (ev_far rfl rfl) (fun _ => by kernel_rfl) (fun _ => rfl)) ?_
    refine And.intro (ob_load rfl (wt_none rfl) (ev_dep (j := 0) (by kernel_rfl) rfl rfl) (fun w2 hb => run_loadPart Tryz.underlying53 rfl (by kernel_rfl) (B0.drew.below hb) rfl) (fun _ _ => rfl)) ?_
    refine And.intro (ob_call1 rfl Tryz.func65 (by kernel_rfl) (wt_none rfl) (ev_dep (j := 1) (by kernel_rfl) rfl rfl) (fun w2 u0 hb h0 => by obtain rfl := h0; exact (rback_any _ _ _ (k0z.drew.below hb) (Nat.le_trans hl.1 (by decide))).mono fun e w3 h => RetZ.pd h hb.size)) ?_
    refine And.intro (ob_fieldAddr rfl (wt_none rfl) (ev_far rfl rfl) (fun _ => by kernel_rfl) (fun _ => rfl)) ?_
    refine And.intro (ob_load rfl (wt_none rfl) (ev_dep (j := 3) (by kernel_rfl) rfl rfl) (fun w2 hb => run_load1 Tryz.underlying51 rfl ((B0.drew.below hb).cell 2)) (fun _ _ => rfl)) ?_
    refine And.intro (ob_call1 rfl Tryz.func66 (by kernel_rfl) (wt_none rfl) (ev_dep (j := 4) (by kernel_rfl) rfl rfl) (fun w2 u0 hb h0 => by obtain rfl := h0; exact (refBack_any _ _ _ (k0d.drew.below hb) (Nat.le_trans (dec_le _) (by have := hl.2; omega)) (Nat.le_trans hl.2 (by decide))).mono fun e w3 h => RetS.pd h hb.size)) ?_
    refine And.intro (ob_build2b rfl (wt_none rfl) (ev_dep (j := 2) (by kernel_rfl) rfl rfl) (ev_dep (j := 5) (by kernel_rfl) rfl rfl) (fun w2 u v hb hu hv => by obtain ⟨u7, rfl, hu7⟩ := hu.1; obtain ⟨A7, c7, rfl, _⟩ := id hu7; obtain ⟨A8, c8, rfl, _⟩ := id hv.1; exact ⟨.agg #[.bool (ngB (q).num), .slice A7 (digs 4294967296 (q).num.natAbs).length c7, .slice A8 (digs 4294967296 (q).den).length c8], by kernel_rfl, ⟨⟨_, _, rfl, hu7, hv.1⟩, freshQ_mk (hu.2 _ _ rfl) hv.2⟩⟩)) ?_
    trivial
  case done10 =>
    refine fun w11 hb11 v0 h0 v1 h1 v2 h2 v3 h3 v4 h4 v5 h5 v6 h6 b hbf => ?_
    obtain rfl := h0; obtain rfl := h1; obtain rfl := h3; obtain rfl := h4
    obtain ⟨q2, f2⟩ := h2
    obtain ⟨q5, f5⟩ := h5
    obtain ⟨q6, f6⟩ := h6
    simp only [Act.put, List.setIfInBounds_toArray, List.set_cons_zero, List.set_cons_succ] at hbf
    subst hbf
    replace B0 := B0.below hb11
    replace k0s := k0s.below hb11
    replace k0d := k0d.below hb11
    replace k0z := k0z.below hb11
    replace k0 := k0.below hb11
    replace BR0 := BR0.below hb11
    replace bb := bb.trans (hb11.mono bb.size)
    have hsz11 := bb.size
    have s_2 := sB
    have s_5 := sB
    have s_6 := sB
    obtain ⟨u6, t6, rfl, q6, d6⟩ := q6
    obtain ⟨A9, c9, rfl, _⟩ := id q6
    obtain ⟨D9, e9, rfl, _⟩ := id d6
    refine any_store (i := 7) (by kernel_rfl) rfl rfl rfl rfl rfl rfl (cells := [.bool (ngB (q).num), .slice A9 (digs 4294967296 (q).num.natAbs).length c9, .slice D9 (digs 4294967296 (q).den).length e9]) rfl BR0 rfl (by kernel_rfl) (one3 rfl rfl rfl) fun w9 hg9 B9 => ?_
    have k9 := off q6 BR0 no_ints3 hg9
    have d9 := off d6 BR0 no_ints3 hg9
    have f9 := f6.mono (show w.heap.size ≤ _ from s_6)
    have bb9 := bb.trans ((Below.refl _ _).grown hg9 bb.size (fun g hg => by injection hg with hg; omega))
    obtain ⟨C0, C1, C2, _, _, _⟩ := three B9
    refine any_done (by kernel_rfl) ?_
    go_wp2
    exact bodyPost_ret (v := .agg #[.bool (ngB (q).num), .slice A9 (digs 4294967296 (q).num.natAbs).length c9, .slice D9 (digs 4294967296 (q).den).length e9]) (by simp [results, Tryz.results22, go_sem, C0, C1, C2]) rfl ⟨_, rfl, ⟨_, _, rfl, k9, d9⟩, f9, bb9⟩
set_option maxHeartbeats 1600000 in
set_option maxRecDepth 100000 in
theorem qzero_any (a0 : Value) (q : Rat) (b : Bool) (w : World) (h0 : IsP w a0 q) (hb : b = decide (q = 0)) :
    Calls Tryz.prog 23 #[a0] w (RetV (.bool b) w) := by
  have HB : Hid (((((digs 10000 q.num.natAbs).length : Nat) : Int) == 0) = b) := by
    show _ = _
    have h1 := digs_len0 (B := 10000) (by omega) (x := q.num.natAbs)
    rw [hb, Bool.eq_iff_iff, beq_iff_eq, decide_eq_true_eq, ← Rat.num_eq_zero]
    omega
  clear hb
  obtain ⟨u0, t0, rfl, s0, r0⟩ := h0
  obtain ⟨A0, c0, rfl, _⟩ := id s0
  obtain ⟨D0, e0, rfl, _⟩ := id r0
  go_enter Tryz.func23, Tryz.ntmps23
  go_upto_region 1 with (fail)
  obtain ⟨wx, hwx, bb, B0, hsz⟩ := vars1 w 55 #[.bool (ngB (q).num), .slice A0 (digs 10000 (q).num.natAbs).length c0, .slice D0 (digs 10000 (q).den).length e0]
  rw [hwx]
  clear hwx
  have k0s := s0.below bb
  have k0d := r0.below bb
  have k0z : IsR wx (.agg #[.bool (ngB (q).num), .slice A0 (digs 10000 (q).num.natAbs).length c0]) (q).num := ⟨_, rfl, k0s⟩
  have k0 : IsP wx (.agg #[.bool (ngB (q).num), .slice A0 (digs 10000 (q).num.natAbs).length c0, .slice D0 (digs 10000 (q).den).length e0]) (q) := ⟨_, _, rfl, k0s, k0d⟩
  have hsz0 := bb.size
  have sB := bb.size
  refine flowp 6 [Pd.eq (.pointer (some ⟨w.heap.size, 0, none⟩)), Pd.eq (.pointer (some ⟨w.heap.size, 1, none⟩)), Pd.eq (.slice A0 (digs 10000 (q).num.natAbs).length c0), Pd.eq (.int .i64 (((digs 10000 (q).num.natAbs).length : Nat) : Int)), Pd.eq (.bool b), Pd.eq (.bool b)] (by kernel_rfl) ?ob15 ?done15
  case ob15 =>
    refine And.intro (ob_fieldAddr rfl (wt_none rfl) (ev_far rfl rfl) (fun _ => by kernel_rfl) (fun _ => rfl)) ?_
    refine And.intro (ob_fieldAddr rfl (wt_none rfl) (ev_dep (j := 0) (by kernel_rfl) rfl rfl) (fun _ => by kernel_rfl) (fun _ => rfl)) ?_
    refine And.intro (ob_load rfl (wt_none rfl) (ev_dep (j := 1) (by kernel_rfl) rfl rfl) (fun w2 hb => run_load1 Tryz.underlying51 rfl ((B0.below hb).cell 1)) (fun _ _ => rfl)) ?_
    refine And.intro (ob_len rfl (wt_none rfl) (ev_dep (j := 2) (by kernel_rfl) rfl rfl) (fun _ _ hx => ⟨_, by rw [hx]; exact len_slice Tryz.underlying51 _ _ _ _, rfl⟩)) ?_
    refine And.intro (ob_bin rfl (wt_none rfl) (ev_dep (j := 3) (by kernel_rfl) rfl rfl) (ev_const _) (fun _ _ _ hx hy => ⟨.bool b, by rw [hx, hy, bin_eql_int, HB.out], rfl⟩)) ?_
    refine And.intro (ob_assign rfl (wt_none rfl) (ev_dep (j := 4) (by kernel_rfl) rfl rfl) (fun _ _ h => h)) ?_
    trivial
  case done15 =>
    refine fun w11 hb11 v0 h0 v1 h1 v2 h2 v3 h3 v4 h4 v5 h5 b hbf => ?_
    obtain rfl := h0; obtain rfl := h1; obtain rfl := h2; obtain rfl := h3; obtain rfl := h4; obtain rfl := h5
    simp only [Act.put, List.setIfInBounds_toArray, List.set_cons_zero, List.set_cons_succ] at hbf
    subst hbf
    replace B0 := B0.below hb11
    replace k0s := k0s.below hb11
    replace k0d := k0d.below hb11
    replace k0z := k0z.below hb11
    replace k0 := k0.below hb11
    replace bb := bb.trans (hb11.mono bb.size)
    have hsz11 := bb.size
    refine ops_done ?_
    go_wp2
    go_ret
    exact ⟨rfl, bb⟩
set_option maxHeartbeats 1600000 in
set_option maxRecDepth 100000 in
theorem rnum7_any (n : Int) (w : World) (h1 : -9223372036854775807 ≤ n) (h2 : n ≤ 9223372036854775807) :
    Calls Tryz.prog 109 #[.int .i64 n] w (RetR n w) := by
  by_cases hn : n < 0
  · have HZ : Hid (sg true n.natAbs = n) := by show _ = _; rw [sg_true]; omega
    go_enter Tryz.func109, Tryz.ntmps109
    go_upto_region 1 with (fail)
    obtain ⟨wx, hwx, bb, BR0, hsz⟩ := vars1 w 53 #[.bool false, .slice none 0 0]
    rw [hwx]
    clear hwx
    go_upto_region 2 with (fail)
    refine flowp 4 [Pd.eq (.int .i64 n), Pd.eq (.int .i64 (-n)), ps .i64 (digs 10000 n.natAbs) wx.heap.size, pr (n)] (by kernel_rfl) ?ob16 ?done16
    case ob16 =>
      refine And.intro (ob_move rfl (wt_none rfl) (ev_far rfl rfl) (fun _ _ h => h)) ?_
      refine And.intro (ob_un rfl (wt_none rfl) (ev_dep (j := 0) (by kernel_rfl) rfl rfl) (fun _ => un_neg _ _ (by omega)) (fun _ => rfl)) ?_
      refine And.intro (ob_call1 rfl Tryz.func110 (by kernel_rfl) (wt_none rfl) (ev_dep (j := 1) (by kernel_rfl) rfl rfl) (fun w2 u0 hb h0 => by obtain rfl := h0; exact (refNum_wide _ n.natAbs _ (by omega) (by omega)).mono fun e w3 h => RetS.pd h hb.size)) ?_
      refine And.intro (ob_call2 rfl Tryz.func134 (by kernel_rfl) (wt_none rfl) (ev_const _) (ev_dep (j := 2) (by kernel_rfl) rfl rfl) (fun w2 u0 u1 hb h0 h1 => by obtain rfl := h0; exact made_pd _ _ _ n _ h1.1 HZ.out)) ?_
      trivial
    case done16 =>
      refine fun w1 hb1 v0 h0 v1 h1 v2 h2 v3 h3 b hbf => ?_
      obtain rfl := h0; obtain rfl := h1
      obtain ⟨q2, f2⟩ := h2
      have q3 := h3
      simp only [Act.put, List.setIfInBounds_toArray, List.set_cons_zero, List.set_cons_succ] at hbf
      subst hbf
      replace BR0 := BR0.below hb1
      replace bb := bb.trans (hb1.mono bb.size)
      have hsz1 := bb.size
      obtain ⟨u3, rfl, q3⟩ := q3
      obtain ⟨A9, c9, rfl, _⟩ := id q3
      refine ops_store (i := 4) rfl rfl rfl rfl rfl rfl (cells := [.bool (ngB n), .slice A9 (digs 10000 n.natAbs).length c9]) rfl BR0 rfl (by kernel_rfl) (one2 rfl rfl) fun w9 hg9 B9 => ?_
      have k9 := off q3 BR0 no_ints2 hg9
      have bb9 := bb.trans ((Below.refl _ _).grown hg9 bb.size (fun g hg => by injection hg with hg; omega))
      obtain ⟨c0, c1, _, _⟩ := Blk.two B9
      refine ops_done ?_
      go_wp2
      exact bodyPost_ret (v := .agg #[.bool (ngB n), .slice A9 (digs 10000 n.natAbs).length c9]) (by simp [results, Tryz.results109, go_sem, c0, c1]) rfl ⟨_, rfl, ⟨_, rfl, k9⟩, bb9⟩
  · have HZ : Hid (sg false n.natAbs = n) := by show _ = _; rw [sg_false]; omega
    go_enter Tryz.func109, Tryz.ntmps109
    go_upto_region 1 with (fail)
    obtain ⟨wx, hwx, bb, BR0, hsz⟩ := vars1 w 53 #[.bool false, .slice none 0 0]
    rw [hwx]
    clear hwx
    go_upto_region 3 with (fail)
    refine flowp 3 [Pd.eq (.int .i64 n), ps .i64 (digs 10000 n.natAbs) wx.heap.size, pr (n)] (by kernel_rfl) ?ob17 ?done17
    case ob17 =>
      refine And.intro (ob_move rfl (wt_none rfl) (ev_far rfl rfl) (fun _ _ h => h)) ?_
      refine And.intro (ob_call1 rfl Tryz.func110 (by kernel_rfl) (wt_none rfl) (ev_dep (j := 0) (by kernel_rfl) rfl rfl) (fun w2 u0 hb h0 => by obtain rfl := h0; exact (refNum_wide _ n.natAbs _ (by omega) (by omega)).mono fun e w3 h => RetS.pd h hb.size)) ?_
      refine And.intro (ob_call2 rfl Tryz.func134 (by kernel_rfl) (wt_none rfl) (ev_const _) (ev_dep (j := 1) (by kernel_rfl) rfl rfl) (fun w2 u0 u1 hb h0 h1 => by obtain rfl := h0; exact made_pd _ _ _ n _ h1.1 HZ.out)) ?_
      trivial
    case done17 =>
      refine fun w1 hb1 v0 h0 v1 h1 v2 h2 b hbf => ?_
      obtain rfl := h0
      obtain ⟨q1, f1⟩ := h1
      have q2 := h2
      simp only [Act.put, List.setIfInBounds_toArray, List.set_cons_zero, List.set_cons_succ] at hbf
      subst hbf
      replace BR0 := BR0.below hb1
      replace bb := bb.trans (hb1.mono bb.size)
      have hsz1 := bb.size
      obtain ⟨u2, rfl, q2⟩ := q2
      obtain ⟨A9, c9, rfl, _⟩ := id q2
      refine ops_store (i := 3) rfl rfl rfl rfl rfl rfl (cells := [.bool (ngB n), .slice A9 (digs 10000 n.natAbs).length c9]) rfl BR0 rfl (by kernel_rfl) (one2 rfl rfl) fun w9 hg9 B9 => ?_
      have k9 := off q2 BR0 no_ints2 hg9
      have bb9 := bb.trans ((Below.refl _ _).grown hg9 bb.size (fun g hg => by injection hg with hg; omega))
      obtain ⟨c0, c1, _, _⟩ := Blk.two B9
      refine ops_done ?_
      go_wp2
      exact bodyPost_ret (v := .agg #[.bool (ngB n), .slice A9 (digs 10000 n.natAbs).length c9]) (by simp [results, Tryz.results109, go_sem, c0, c1]) rfl ⟨_, rfl, ⟨_, rfl, k9⟩, bb9⟩
set_option maxHeartbeats 1600000 in
set_option maxRecDepth 100000 in
theorem qnum_any (n : Int) (d : Int) (w : World)  (dn : Nat) (hd : d = (dn : Int)) (h1 : -9223372036854775807 ≤ n) (h2 : n ≤ 9223372036854775807) (h3 : dn ≠ 0) (h4 : dn ≤ 9223372036854775807) :
    Calls Tryz.prog 59 #[.int .i64 n, .int .i64 d] w (RetPF (mkRat n dn) w) := by
  have HLZ : Hid (lenZ n ≤ 30000) := Nat.le_trans (dig32 (by omega)) (by decide)
  have HLD : Hid ((digs 4294967296 dn).length ≤ 30000) := Nat.le_trans (dig32 (by omega)) (by decide)
  go_enter Tryz.func59, Tryz.ntmps59
  go_upto_region 1 with (fail)
  obtain ⟨wx, hwx, bb, BR0, hsz⟩ := vars1 w 55 #[.bool false, .slice none 0 0, .slice none 0 0]
  rw [hwx]
  clear hwx
  have hsz0 := bb.size
  have sB := bb.size
  refine flowp 5 [Pd.eq (.int .i64 n), pr (n), Pd.eq (.int .i64 d), ps .i64 (digs 10000 dn) wx.heap.size, ppf (mkRat n dn) wx.heap.size] (by kernel_rfl) ?ob18 ?done18
  case ob18 =>
    refine And.intro (ob_move rfl (wt_none rfl) (ev_far rfl rfl) (fun _ _ h => h)) ?_
    refine And.intro (ob_call1 rfl Tryz.func109 (by kernel_rfl) (wt_none rfl) (ev_dep (j := 0) (by kernel_rfl) rfl rfl) (fun w2 u0 hb h0 => by obtain rfl := h0; exact (rnum7_any n _ h1 h2).mono fun e w3 h => RetR.pd h)) ?_
    refine And.intro (ob_move rfl (wt_none rfl) (ev_far rfl rfl) (fun _ _ h => h)) ?_
    refine And.intro (ob_call1 rfl Tryz.func110 (by kernel_rfl) (wt_none rfl) (ev_dep (j := 2) (by kernel_rfl) rfl rfl) (fun w2 u0 hb h0 => by obtain rfl := h0; exact (refNum_wide _ dn _ hd h4).mono fun e w3 h => RetS.pd h hb.size)) ?_
    refine And.intro (ob_call2 rfl Tryz.func86 (by kernel_rfl) (wt_none rfl) (ev_dep (j := 1) (by kernel_rfl) rfl rfl) (ev_dep (j := 3) (by kernel_rfl) rfl rfl) (fun w2 u0 u1 hb h0 h1 => by exact (rlow_any _ n _ dn _ h0 h1.1 h3 HLZ.out HLD.out).mono fun e w3 h => RetPF.pdf h hb.size)) ?_
    trivial
  case done18 =>
    refine fun w11 hb11 v0 h0 v1 h1 v2 h2 v3 h3 v4 h4 b hbf => ?_
    obtain rfl := h0; obtain rfl := h2
    have q1 := h1
    obtain ⟨q3, f3⟩ := h3
    obtain ⟨q4, f4⟩ := h4
    simp only [Act.put, List.setIfInBounds_toArray, List.set_cons_zero, List.set_cons_succ] at hbf
    subst hbf
    replace BR0 := BR0.below hb11
    replace bb := bb.trans (hb11.mono bb.size)
    have hsz11 := bb.size
    have s_3 := sB
    have s_4 := sB
    obtain ⟨u4, t4, rfl, q4, d4⟩ := q4
    obtain ⟨A9, c9, rfl, _⟩ := id q4
    obtain ⟨D9, e9, rfl, _⟩ := id d4
    refine ops_store (i := 5) rfl rfl rfl rfl rfl rfl (cells := [.bool (ngB (mkRat n dn).num), .slice A9 (digs 10000 (mkRat n dn).num.natAbs).length c9, .slice D9 (digs 10000 (mkRat n dn).den).length e9]) rfl BR0 rfl (by kernel_rfl) (one3 rfl rfl rfl) fun w9 hg9 B9 => ?_
    have k9 := off q4 BR0 no_ints3 hg9
    have d9 := off d4 BR0 no_ints3 hg9
    have f9 := f4.mono (show w.heap.size ≤ _ from s_4)
    have bb9 := bb.trans ((Below.refl _ _).grown hg9 bb.size (fun g hg => by injection hg with hg; omega))
    obtain ⟨C0, C1, C2, _, _, _⟩ := three B9
    refine ops_done ?_
    go_wp2
    exact bodyPost_ret (v := .agg #[.bool (ngB (mkRat n dn).num), .slice A9 (digs 10000 (mkRat n dn).num.natAbs).length c9, .slice D9 (digs 10000 (mkRat n dn).den).length e9]) (by simp [results, Tryz.results59, go_sem, C0, C1, C2]) rfl ⟨_, rfl, ⟨_, _, rfl, k9, d9⟩, f9, bb9⟩
set_option maxHeartbeats 1600000 in
set_option maxRecDepth 100000 in
theorem zsame_any (a0 : Value) (x : Int) (a1 : Value) (y : Int) (b : Bool) (w : World) (h0 : IsZ w a0 x) (h1 : IsZ w a1 y) (hb : b = decide (x = y)) :
    Calls Tryz.prog 63 #[a0, a1] w (RetV (.bool b) w) := by
  rcases hs0 : ngB x with _ | _ <;> rcases hs1 : ngB y with _ | _
  · have HB : Hid (b = decide (x.natAbs = y.natAbs)) := by show _ = _; rw [hb, decide_eq_decide]; have := ngB_false hs0; have := ngB_false hs1; omega
    clear hb
    obtain ⟨u0, rfl, s0⟩ := h0
    obtain ⟨A0, c0, rfl, _⟩ := id s0
    obtain ⟨u1, rfl, s1⟩ := h1
    obtain ⟨A1, c1, rfl, _⟩ := id s1
    go_enter Tryz.func63, Tryz.ntmps63
    go_upto_region 1 with (fail)
    obtain ⟨wx, hwx, bb, B0, B1, hsz⟩ := vars2 w 42 42 #[.bool false, .slice A0 (digs 4294967296 (x).natAbs).length c0] #[.bool false, .slice A1 (digs 4294967296 (y).natAbs).length c1]
    rw [hwx]
    clear hwx
    have k0s := s0.below bb
    have k0 : IsZ wx (.agg #[.bool false, .slice A0 (digs 4294967296 (x).natAbs).length c0]) (x) := isZ_mk k0s rfl hs0.symm
    have k1s := s1.below bb
    have k1 : IsZ wx (.agg #[.bool false, .slice A1 (digs 4294967296 (y).natAbs).length c1]) (y) := isZ_mk k1s rfl hs1.symm
    have hsz0 := bb.size
    have sB := bb.size
    refine flowp 13 [Pd.eq (.pointer (some ⟨w.heap.size, 0, none⟩)), Pd.eq (.bool false), Pd.eq (.pointer (some ⟨w.heap.size + 1, 0, none⟩)), Pd.eq (.bool false), Pd.eq (.bool true), Pd.eq (.bool true), Pd.eq (.pointer (some ⟨w.heap.size, 1, none⟩)), Pd.eq (.slice A0 (digs 4294967296 (x).natAbs).length c0), Pd.eq (.pointer (some ⟨w.heap.size + 1, 1, none⟩)), Pd.eq (.slice A1 (digs 4294967296 (y).natAbs).length c1), Pd.eq (.bool b), Pd.eq (.bool b), Pd.eq (.bool b)] (by kernel_rfl) ?ob20 ?done20
    case ob20 =>
      refine And.intro (ob_fieldAddr rfl (wt_none rfl) (ev_far rfl rfl) (fun _ => by kernel_rfl) (fun _ => rfl)) ?_
      refine And.intro (ob_load rfl (wt_none rfl) (ev_dep (j := 0) (by kernel_rfl) rfl rfl) (fun w2 hb => run_load1 Tryz.underlying4 rfl ((B0.below hb).cell 0)) (fun _ _ => rfl)) ?_
      refine And.intro (ob_fieldAddr rfl (wt_none rfl) (ev_far rfl rfl) (fun _ => by kernel_rfl) (fun _ => rfl)) ?_
      refine And.intro (ob_load rfl (wt_none rfl) (ev_dep (j := 2) (by kernel_rfl) rfl rfl) (fun w2 hb => run_load1 Tryz.underlying4 rfl ((B1.below hb).cell 0)) (fun _ _ => rfl)) ?_
      refine And.intro (ob_bin rfl (wt_none rfl) (ev_dep (j := 1) (by kernel_rfl) rfl rfl) (ev_dep (j := 3) (by kernel_rfl) rfl rfl) (fun _ _ _ hx hy => ⟨.bool (false == false), by rw [hx, hy]; exact bin_eql_bool _ _ _ _ Tryz.underlying4 _, rfl⟩)) ?_
      refine And.intro (ob_move rfl (wt_none rfl) (ev_dep (j := 4) (by kernel_rfl) rfl rfl) (fun _ _ h => h)) ?_
      refine And.intro (ob_fieldAddr rfl (wt_dep (c := true) (b := true) (g := 5) rfl (by kernel_rfl) rfl rfl rfl (by exact fun _ _ h => h)) (ev_far rfl rfl) (fun _ => by kernel_rfl) (fun _ => rfl)) ?_
      refine And.intro (ob_load rfl (wt_dep (c := true) (b := true) (g := 5) rfl (by kernel_rfl) rfl rfl rfl (by exact fun _ _ h => h)) (ev_dep (j := 6) (by kernel_rfl) rfl rfl) (fun w2 hb => run_load1 Tryz.underlying40 rfl ((B0.below hb).cell 1)) (fun _ _ => rfl)) ?_
      refine And.intro (ob_fieldAddr rfl (wt_dep (c := true) (b := true) (g := 5) rfl (by kernel_rfl) rfl rfl rfl (by exact fun _ _ h => h)) (ev_far rfl rfl) (fun _ => by kernel_rfl) (fun _ => rfl)) ?_
      refine And.intro (ob_load rfl (wt_dep (c := true) (b := true) (g := 5) rfl (by kernel_rfl) rfl rfl rfl (by exact fun _ _ h => h)) (ev_dep (j := 8) (by kernel_rfl) rfl rfl) (fun w2 hb => run_load1 Tryz.underlying40 rfl ((B1.below hb).cell 1)) (fun _ _ => rfl)) ?_
      refine And.intro (ob_call2 rfl Tryz.func64 (by kernel_rfl) (wt_dep (c := true) (b := true) (g := 5) rfl (by kernel_rfl) rfl rfl rfl (by exact fun _ _ h => h)) (ev_dep (j := 7) (by kernel_rfl) rfl rfl) (ev_dep (j := 9) (by kernel_rfl) rfl rfl) (fun w2 u0 u1 hb h0 h1 => by obtain rfl := h0; obtain rfl := h1; exact (same_num _ _ x.natAbs y.natAbs b _ (k0s.below hb) (k1s.below hb) HB.out).mono fun e w3 h => RetV.pd h)) ?_
      refine And.intro (ob_pick (b := true) rfl (wt_none rfl) (ev_dep (j := 5) (by kernel_rfl) rfl rfl) (ev_dep (j := 10) (by kernel_rfl) rfl rfl) (fun _ _ h => h)) ?_
      refine And.intro (ob_assign rfl (wt_none rfl) (ev_dep (j := 11) (by kernel_rfl) rfl rfl) (fun _ _ h => h)) ?_
      trivial
    case done20 =>
      refine fun w11 hb11 v0 h0 v1 h1 v2 h2 v3 h3 v4 h4 v5 h5 v6 h6 v7 h7 v8 h8 v9 h9 v10 h10 v11 h11 v12 h12 b hbf => ?_
      obtain rfl := h0; obtain rfl := h1; obtain rfl := h2; obtain rfl := h3; obtain rfl := h4; obtain rfl := h5; obtain rfl := h6; obtain rfl := h7; obtain rfl := h8; obtain rfl := h9; obtain rfl := h10; obtain rfl := h11; obtain rfl := h12
      simp only [Act.put, List.setIfInBounds_toArray, List.set_cons_zero, List.set_cons_succ] at hbf
      subst hbf
      replace B0 := B0.below hb11
      replace k0s := k0s.below hb11
      replace k0 := k0.below hb11
      replace B1 := B1.below hb11
      replace k1s := k1s.below hb11
      replace k1 := k1.below hb11
      replace bb := bb.trans (hb11.mono bb.size)
      have hsz11 := bb.size
      refine ops_done ?_
      go_wp2
      go_ret
      exact ⟨rfl, bb⟩
  · obtain rfl : b = false := by rw [hb, decide_eq_false_iff_not]; have := ngB_false hs0; have := ngB_true hs1; omega
    clear hb
    obtain ⟨u0, rfl, s0⟩ := h0
    obtain ⟨A0, c0, rfl, _⟩ := id s0
    obtain ⟨u1, rfl, s1⟩ := h1
    obtain ⟨A1, c1, rfl, _⟩ := id s1
    go_enter Tryz.func63, Tryz.ntmps63
    go_upto_region 1 with (fail)
    obtain ⟨wx, hwx, bb, B0, B1, hsz⟩ := vars2 w 42 42 #[.bool false, .slice A0 (digs 4294967296 (x).natAbs).length c0] #[.bool true, .slice A1 (digs 4294967296 (y).natAbs).length c1]
    rw [hwx]
    clear hwx
    have k0s := s0.below bb
    have k0 : IsZ wx (.agg #[.bool false, .slice A0 (digs 4294967296 (x).natAbs).length c0]) (x) := isZ_mk k0s rfl hs0.symm
    have k1s := s1.below bb
    have k1 : IsZ wx (.agg #[.bool true, .slice A1 (digs 4294967296 (y).natAbs).length c1]) (y) := isZ_mk k1s rfl hs1.symm
    have hsz0 := bb.size
    have sB := bb.size
    refine flowp 13 [Pd.eq (.pointer (some ⟨w.heap.size, 0, none⟩)), Pd.eq (.bool false), Pd.eq (.pointer (some ⟨w.heap.size + 1, 0, none⟩)), Pd.eq (.bool true), Pd.eq (.bool false), Pd.eq (.bool false), Pd.any, Pd.any, Pd.any, Pd.any, Pd.any, Pd.eq (.bool false), Pd.eq (.bool false)] (by kernel_rfl) ?ob21 ?done21
    case ob21 =>
      refine And.intro (ob_fieldAddr rfl (wt_none rfl) (ev_far rfl rfl) (fun _ => by kernel_rfl) (fun _ => rfl)) ?_
      refine And.intro (ob_load rfl (wt_none rfl) (ev_dep (j := 0) (by kernel_rfl) rfl rfl) (fun w2 hb => run_load1 Tryz.underlying4 rfl ((B0.below hb).cell 0)) (fun _ _ => rfl)) ?_
      refine And.intro (ob_fieldAddr rfl (wt_none rfl) (ev_far rfl rfl) (fun _ => by kernel_rfl) (fun _ => rfl)) ?_
      refine And.intro (ob_load rfl (wt_none rfl) (ev_dep (j := 2) (by kernel_rfl) rfl rfl) (fun w2 hb => run_load1 Tryz.underlying4 rfl ((B1.below hb).cell 0)) (fun _ _ => rfl)) ?_
      refine And.intro (ob_bin rfl (wt_none rfl) (ev_dep (j := 1) (by kernel_rfl) rfl rfl) (ev_dep (j := 3) (by kernel_rfl) rfl rfl) (fun _ _ _ hx hy => ⟨.bool (false == true), by rw [hx, hy]; exact bin_eql_bool _ _ _ _ Tryz.underlying4 _, rfl⟩)) ?_
      refine And.intro (ob_move rfl (wt_none rfl) (ev_dep (j := 4) (by kernel_rfl) rfl rfl) (fun _ _ h => h)) ?_
      refine And.intro (ob_not (wt_dep (c := false) (b := true) (g := 5) rfl (by kernel_rfl) rfl rfl rfl (by exact fun _ _ h => h)) (fun _ => trivial) rfl) ?_
      refine And.intro (ob_not (wt_dep (c := false) (b := true) (g := 5) rfl (by kernel_rfl) rfl rfl rfl (by exact fun _ _ h => h)) (fun _ => trivial) rfl) ?_
      refine And.intro (ob_not (wt_dep (c := false) (b := true) (g := 5) rfl (by kernel_rfl) rfl rfl rfl (by exact fun _ _ h => h)) (fun _ => trivial) rfl) ?_
      refine And.intro (ob_not (wt_dep (c := false) (b := true) (g := 5) rfl (by kernel_rfl) rfl rfl rfl (by exact fun _ _ h => h)) (fun _ => trivial) rfl) ?_
      refine And.intro (ob_not (wt_dep (c := false) (b := true) (g := 5) rfl (by kernel_rfl) rfl rfl rfl (by exact fun _ _ h => h)) (fun _ => trivial) rfl) ?_
      refine And.intro (ob_pick (b := false) rfl (wt_none rfl) (ev_dep (j := 5) (by kernel_rfl) rfl rfl) (ev_const _) (fun _ _ h => h)) ?_
      refine And.intro (ob_assign rfl (wt_none rfl) (ev_dep (j := 11) (by kernel_rfl) rfl rfl) (fun _ _ h => h)) ?_
      trivial
    case done21 =>
      refine fun w11 hb11 v0 h0 v1 h1 v2 h2 v3 h3 v4 h4 v5 h5 v6 h6 v7 h7 v8 h8 v9 h9 v10 h10 v11 h11 v12 h12 b hbf => ?_
      obtain rfl := h0; obtain rfl := h1; obtain rfl := h2; obtain rfl := h3; obtain rfl := h4; obtain rfl := h5; obtain rfl := h11; obtain rfl := h12
      clear h6
      clear h7
      clear h8
      clear h9
      clear h10
      simp only [Act.put, List.setIfInBounds_toArray, List.set_cons_zero, List.set_cons_succ] at hbf
      subst hbf
      replace B0 := B0.below hb11
      replace k0s := k0s.below hb11
      replace k0 := k0.below hb11
      replace B1 := B1.below hb11
      replace k1s := k1s.below hb11
      replace k1 := k1.below hb11
      replace bb := bb.trans (hb11.mono bb.size)
      have hsz11 := bb.size
      refine ops_done ?_
      go_wp2
      go_ret
      exact ⟨rfl, bb⟩
  · obtain rfl : b = false := by rw [hb, decide_eq_false_iff_not]; have := ngB_true hs0; have := ngB_false hs1; omega
    clear hb
    obtain ⟨u0, rfl, s0⟩ := h0
    obtain ⟨A0, c0, rfl, _⟩ := id s0
    obtain ⟨u1, rfl, s1⟩ := h1
    obtain ⟨A1, c1, rfl, _⟩ := id s1
    go_enter Tryz.func63, Tryz.ntmps63
    go_upto_region 1 with (fail)
    obtain ⟨wx, hwx, bb, B0, B1, hsz⟩ := vars2 w 42 42 #[.bool true, .slice A0 (digs 4294967296 (x).natAbs).length c0] #[.bool false, .slice A1 (digs 4294967296 (y).natAbs).length c1]
    rw [hwx]
    clear hwx
    have k0s := s0.below bb
    have k0 : IsZ wx (.agg #[.bool true, .slice A0 (digs 4294967296 (x).natAbs).length c0]) (x) := isZ_mk k0s rfl hs0.symm
    have k1s := s1.below bb
    have k1 : IsZ wx (.agg #[.bool false, .slice A1 (digs 4294967296 (y).natAbs).length c1]) (y) := isZ_mk k1s rfl hs1.symm
    have hsz0 := bb.size
    have sB := bb.size
    refine flowp 13 [Pd.eq (.pointer (some ⟨w.heap.size, 0, none⟩)), Pd.eq (.bool true), Pd.eq (.pointer (some ⟨w.heap.size + 1, 0, none⟩)), Pd.eq (.bool false), Pd.eq (.bool false), Pd.eq (.bool false), Pd.any, Pd.any, Pd.any, Pd.any, Pd.any, Pd.eq (.bool false), Pd.eq (.bool false)] (by kernel_rfl) ?ob22 ?done22
    case ob22 =>
      refine And.intro (ob_fieldAddr rfl (wt_none rfl) (ev_far rfl rfl) (fun _ => by kernel_rfl) (fun _ => rfl)) ?_
      refine And.intro (ob_load rfl (wt_none rfl) (ev_dep (j := 0) (by kernel_rfl) rfl rfl) (fun w2 hb => run_load1 Tryz.underlying4 rfl ((B0.below hb).cell 0)) (fun _ _ => rfl)) ?_
      refine And.intro (ob_fieldAddr rfl (wt_none rfl) (ev_far rfl rfl) (fun _ => by kernel_rfl) (fun _ => rfl)) ?_
      refine And.intro (ob_load rfl (wt_none rfl) (ev_dep (j := 2) (by kernel_rfl) rfl rfl) (fun w2 hb => run_load1 Tryz.underlying4 rfl ((B1.below hb).cell 0)) (fun _ _ => rfl)) ?_
      refine And.intro (ob_bin rfl (wt_none rfl) (ev_dep (j := 1) (by kernel_rfl) rfl rfl) (ev_dep (j := 3) (by kernel_rfl) rfl rfl) (fun _ _ _ hx hy => ⟨.bool (true == false), by rw [hx, hy]; exact bin_eql_bool _ _ _ _ Tryz.underlying4 _, rfl⟩)) ?_
      refine And.intro (ob_move rfl (wt_none rfl) (ev_dep (j := 4) (by kernel_rfl) rfl rfl) (fun _ _ h => h)) ?_
      refine And.intro (ob_not (wt_dep (c := false) (b := true) (g := 5) rfl (by kernel_rfl) rfl rfl rfl (by exact fun _ _ h => h)) (fun _ => trivial) rfl) ?_
      refine And.intro (ob_not (wt_dep (c := false) (b := true) (g := 5) rfl (by kernel_rfl) rfl rfl rfl (by exact fun _ _ h => h)) (fun _ => trivial) rfl) ?_
      refine And.intro (ob_not (wt_dep (c := false) (b := true) (g := 5) rfl (by kernel_rfl) rfl rfl rfl (by exact fun _ _ h => h)) (fun _ => trivial) rfl) ?_
      refine And.intro (ob_not (wt_dep (c := false) (b := true) (g := 5) rfl (by kernel_rfl) rfl rfl rfl (by exact fun _ _ h => h)) (fun _ => trivial) rfl) ?_
      refine And.intro (ob_not (wt_dep (c := false) (b := true) (g := 5) rfl (by kernel_rfl) rfl rfl rfl (by exact fun _ _ h => h)) (fun _ => trivial) rfl) ?_
      refine And.intro (ob_pick (b := false) rfl (wt_none rfl) (ev_dep (j := 5) (by kernel_rfl) rfl rfl) (ev_const _) (fun _ _ h => h)) ?_
      refine And.intro (ob_assign rfl (wt_none rfl) (ev_dep (j := 11) (by kernel_rfl) rfl rfl) (fun _ _ h => h)) ?_
      trivial
    case done22 =>
      refine fun w11 hb11 v0 h0 v1 h1 v2 h2 v3 h3 v4 h4 v5 h5 v6 h6 v7 h7 v8 h8 v9 h9 v10 h10 v11 h11 v12 h12 b hbf => ?_
      obtain rfl := h0; obtain rfl := h1; obtain rfl := h2; obtain rfl := h3; obtain rfl := h4; obtain rfl := h5; obtain rfl := h11; obtain rfl := h12
      clear h6
      clear h7
      clear h8
      clear h9
      clear h10
      simp only [Act.put, List.setIfInBounds_toArray, List.set_cons_zero, List.set_cons_succ] at hbf
      subst hbf
      replace B0 := B0.below hb11
      replace k0s := k0s.below hb11
      replace k0 := k0.below hb11
      replace B1 := B1.below hb11
      replace k1s := k1s.below hb11
      replace k1 := k1.below hb11
      replace bb := bb.trans (hb11.mono bb.size)
      have hsz11 := bb.size
      refine ops_done ?_
      go_wp2
      go_ret
      exact ⟨rfl, bb⟩
  · have HB : Hid (b = decide (x.natAbs = y.natAbs)) := by show _ = _; rw [hb, decide_eq_decide]; have := ngB_true hs0; have := ngB_true hs1; omega
    clear hb
    obtain ⟨u0, rfl, s0⟩ := h0
    obtain ⟨A0, c0, rfl, _⟩ := id s0
    obtain ⟨u1, rfl, s1⟩ := h1
    obtain ⟨A1, c1, rfl, _⟩ := id s1
    go_enter Tryz.func63, Tryz.ntmps63
    go_upto_region 1 with (fail)
    obtain ⟨wx, hwx, bb, B0, B1, hsz⟩ := vars2 w 42 42 #[.bool true, .slice A0 (digs 4294967296 (x).natAbs).length c0] #[.bool true, .slice A1 (digs 4294967296 (y).natAbs).length c1]
    rw [hwx]
    clear hwx
    have k0s := s0.below bb
    have k0 : IsZ wx (.agg #[.bool true, .slice A0 (digs 4294967296 (x).natAbs).length c0]) (x) := isZ_mk k0s rfl hs0.symm
    have k1s := s1.below bb
    have k1 : IsZ wx (.agg #[.bool true, .slice A1 (digs 4294967296 (y).natAbs).length c1]) (y) := isZ_mk k1s rfl hs1.symm
    have hsz0 := bb.size
    have sB := bb.size
    refine flowp 13 [Pd.eq (.pointer (some ⟨w.heap.size, 0, none⟩)), Pd.eq (.bool true), Pd.eq (.pointer (some ⟨w.heap.size + 1, 0, none⟩)), Pd.eq (.bool true), Pd.eq (.bool true), Pd.eq (.bool true), Pd.eq (.pointer (some ⟨w.heap.size, 1, none⟩)), Pd.eq (.slice A0 (digs 4294967296 (x).natAbs).length c0), Pd.eq (.pointer (some ⟨w.heap.size + 1, 1, none⟩)), Pd.eq (.slice A1 (digs 4294967296 (y).natAbs).length c1), Pd.eq (.bool b), Pd.eq (.bool b), Pd.eq (.bool b)] (by kernel_rfl) ?ob23 ?done23
    case ob23 =>
      refine And.intro (ob_fieldAddr rfl (wt_none rfl) (ev_far rfl rfl) (fun _ => by kernel_rfl) (fun _ => rfl)) ?_
      refine And.intro (ob_load rfl (wt_none rfl) (ev_dep (j := 0) (by kernel_rfl) rfl rfl) (fun w2 hb => run_load1 Tryz.underlying4 rfl ((B0.below hb).cell 0)) (fun _ _ => rfl)) ?_
      refine And.intro (ob_fieldAddr rfl (wt_none rfl) (ev_far rfl rfl) (fun _ => by kernel_rfl) (fun _ => rfl)) ?_
      refine And.intro (ob_load rfl (wt_none rfl) (ev_dep (j := 2) (by kernel_rfl) rfl rfl) (fun w2 hb => run_load1 Tryz.underlying4 rfl ((B1.below hb).cell 0)) (fun _ _ => rfl)) ?_
      refine And.intro (ob_bin rfl (wt_none rfl) (ev_dep (j := 1) (by kernel_rfl) rfl rfl) (ev_dep (j := 3) (by kernel_rfl) rfl rfl) (fun _ _ _ hx hy => ⟨.bool (true == true), by rw [hx, hy]; exact bin_eql_bool _ _ _ _ Tryz.underlying4 _, rfl⟩)) ?_
      refine And.intro (ob_move rfl (wt_none rfl) (ev_dep (j := 4) (by kernel_rfl) rfl rfl) (fun _ _ h => h)) ?_
      refine And.intro (ob_fieldAddr rfl (wt_dep (c := true) (b := true) (g := 5) rfl (by kernel_rfl) rfl rfl rfl (by exact fun _ _ h => h)) (ev_far rfl rfl) (fun _ => by kernel_rfl) (fun _ => rfl)) ?_
      refine And.intro (ob_load rfl (wt_dep (c := true) (b := true) (g := 5) rfl (by kernel_rfl) rfl rfl rfl (by exact fun _ _ h => h)) (ev_dep (j := 6) (by kernel_rfl) rfl rfl) (fun w2 hb => run_load1 Tryz.underlying40 rfl ((B0.below hb).cell 1)) (fun _ _ => rfl)) ?_
      refine And.intro (ob_fieldAddr rfl (wt_dep (c := true) (b := true) (g := 5) rfl (by kernel_rfl) rfl rfl rfl (by exact fun _ _ h => h)) (ev_far rfl rfl) (fun _ => by kernel_rfl) (fun _ => rfl)) ?_
      refine And.intro (ob_load rfl (wt_dep (c := true) (b := true) (g := 5) rfl (by kernel_rfl) rfl rfl rfl (by exact fun _ _ h => h)) (ev_dep (j := 8) (by kernel_rfl) rfl rfl) (fun w2 hb => run_load1 Tryz.underlying40 rfl ((B1.below hb).cell 1)) (fun _ _ => rfl)) ?_
      refine And.intro (ob_call2 rfl Tryz.func64 (by kernel_rfl) (wt_dep (c := true) (b := true) (g := 5) rfl (by kernel_rfl) rfl rfl rfl (by exact fun _ _ h => h)) (ev_dep (j := 7) (by kernel_rfl) rfl rfl) (ev_dep (j := 9) (by kernel_rfl) rfl rfl) (fun w2 u0 u1 hb h0 h1 => by obtain rfl := h0; obtain rfl := h1; exact (same_num _ _ x.natAbs y.natAbs b _ (k0s.below hb) (k1s.below hb) HB.out).mono fun e w3 h => RetV.pd h)) ?_
      refine And.intro (ob_pick (b := true) rfl (wt_none rfl) (ev_dep (j := 5) (by kernel_rfl) rfl rfl) (ev_dep (j := 10) (by kernel_rfl) rfl rfl) (fun _ _ h => h)) ?_
      refine And.intro (ob_assign rfl (wt_none rfl) (ev_dep (j := 11) (by kernel_rfl) rfl rfl) (fun _ _ h => h)) ?_
      trivial
    case done23 =>
      refine fun w11 hb11 v0 h0 v1 h1 v2 h2 v3 h3 v4 h4 v5 h5 v6 h6 v7 h7 v8 h8 v9 h9 v10 h10 v11 h11 v12 h12 b hbf => ?_
      obtain rfl := h0; obtain rfl := h1; obtain rfl := h2; obtain rfl := h3; obtain rfl := h4; obtain rfl := h5; obtain rfl := h6; obtain rfl := h7; obtain rfl := h8; obtain rfl := h9; obtain rfl := h10; obtain rfl := h11; obtain rfl := h12
      simp only [Act.put, List.setIfInBounds_toArray, List.set_cons_zero, List.set_cons_succ] at hbf
      subst hbf
      replace B0 := B0.below hb11
      replace k0s := k0s.below hb11
      replace k0 := k0.below hb11
      replace B1 := B1.below hb11
      replace k1s := k1s.below hb11
      replace k1 := k1.below hb11
      replace bb := bb.trans (hb11.mono bb.size)
      have hsz11 := bb.size
      refine ops_done ?_
      go_wp2
      go_ret
      exact ⟨rfl, bb⟩
set_option maxHeartbeats 1600000 in
set_option maxRecDepth 100000 in
theorem qsame_any (a0 a1 : Value) (x y : Rat) (b : Bool) (w : World) (h0 : IsQ w a0 x) (h1 : IsQ w a1 y) (hb : b = decide (x = y)) :
    Calls Tryz.prog 21 #[a0, a1] w (RetV (.bool b) w) := by
  by_cases hn : x.num = y.num
  · have HB : Hid (b = decide (x.den = y.den)) := by show _ = _; rw [hb, decide_eq_decide]; exact ⟨fun e => by rw [e], fun e => Rat.ext hn e⟩
    clear hb
    have HN := Lib.hid hn
    clear hn
    obtain ⟨u0, t0, rfl, s0, r0⟩ := h0
    obtain ⟨A0, c0, rfl, _⟩ := id s0
    obtain ⟨D0, e0, rfl, _⟩ := id r0
    obtain ⟨u1, t1, rfl, s1, r1⟩ := h1
    obtain ⟨A1, c1, rfl, _⟩ := id s1
    obtain ⟨D1, e1, rfl, _⟩ := id r1
    go_enter Tryz.func21, Tryz.ntmps21
    go_upto_region 1 with (fail)
    obtain ⟨wx, hwx, bb, B0, B1, hsz⟩ := vars2 w 44 44 #[.bool (ngB (x).num), .slice A0 (digs 4294967296 (x).num.natAbs).length c0, .slice D0 (digs 4294967296 (x).den).length e0] #[.bool (ngB (y).num), .slice A1 (digs 4294967296 (y).num.natAbs).length c1, .slice D1 (digs 4294967296 (y).den).length e1]
    rw [hwx]
    clear hwx
    have k0s := s0.below bb
    have k0d := r0.below bb
    have k0z : IsZ wx (.agg #[.bool (ngB (x).num), .slice A0 (digs 4294967296 (x).num.natAbs).length c0]) (x).num := ⟨_, rfl, k0s⟩
    have k0 : IsQ wx (.agg #[.bool (ngB (x).num), .slice A0 (digs 4294967296 (x).num.natAbs).length c0, .slice D0 (digs 4294967296 (x).den).length e0]) (x) := ⟨_, _, rfl, k0s, k0d⟩
    have k1s := s1.below bb
    have k1d := r1.below bb
    have k1z : IsZ wx (.agg #[.bool (ngB (y).num), .slice A1 (digs 4294967296 (y).num.natAbs).length c1]) (y).num := ⟨_, rfl, k1s⟩
    have k1 : IsQ wx (.agg #[.bool (ngB (y).num), .slice A1 (digs 4294967296 (y).num.natAbs).length c1, .slice D1 (digs 4294967296 (y).den).length e1]) (y) := ⟨_, _, rfl, k1s, k1d⟩
    have hsz0 := bb.size
    have sB := bb.size
    refine flowp 13 [Pd.eq (.pointer (some ⟨w.heap.size, 0, none⟩)), Pd.eq (.agg #[.bool (ngB (x).num), .slice A0 (digs 4294967296 (x).num.natAbs).length c0]), Pd.eq (.pointer (some ⟨w.heap.size + 1, 0, none⟩)), Pd.eq (.agg #[.bool (ngB (y).num), .slice A1 (digs 4294967296 (y).num.natAbs).length c1]), Pd.eq (.bool true), Pd.eq (.bool true), Pd.eq (.pointer (some ⟨w.heap.size, 2, none⟩)), Pd.eq (.slice D0 (digs 4294967296 (x).den).length e0), Pd.eq (.pointer (some ⟨w.heap.size + 1, 2, none⟩)), Pd.eq (.slice D1 (digs 4294967296 (y).den).length e1), Pd.eq (.bool b), Pd.eq (.bool b), Pd.eq (.bool b)] (by kernel_rfl) ?ob24 ?done24
    case ob24 =>
      refine And.intro (ob_fieldAddr rfl (wt_none rfl) (ev_far rfl rfl) (fun _ => by kernel_rfl) (fun _ => rfl)) ?_
      refine And.intro (ob_load rfl (wt_none rfl) (ev_dep (j := 0) (by kernel_rfl) rfl rfl) (fun w2 hb => run_loadPart Tryz.underlying42 rfl (by kernel_rfl) (B0.below hb) rfl) (fun _ _ => rfl)) ?_
      refine And.intro (ob_fieldAddr rfl (wt_none rfl) (ev_far rfl rfl) (fun _ => by kernel_rfl) (fun _ => rfl)) ?_
      refine And.intro (ob_load rfl (wt_none rfl) (ev_dep (j := 2) (by kernel_rfl) rfl rfl) (fun w2 hb => run_loadPart Tryz.underlying42 rfl (by kernel_rfl) (B1.below hb) rfl) (fun _ _ => rfl)) ?_
      refine And.intro (ob_call2 rfl Tryz.func63 (by kernel_rfl) (wt_none rfl) (ev_dep (j := 1) (by kernel_rfl) rfl rfl) (ev_dep (j := 3) (by kernel_rfl) rfl rfl) (fun w2 u0 u1 hb h0 h1 => by obtain rfl := h0; obtain rfl := h1; exact (zsame_any _ x.num _ y.num true _ (k0z.below hb) (k1z.below hb) (decide_eq_true HN.out).symm).mono fun e w3 h => RetV.pd h)) ?_
      refine And.intro (ob_move rfl (wt_none rfl) (ev_dep (j := 4) (by kernel_rfl) rfl rfl) (fun _ _ h => h)) ?_
      refine And.intro (ob_fieldAddr rfl (wt_dep (c := true) (b := true) (g := 5) rfl (by kernel_rfl) rfl rfl rfl (by exact fun _ _ h => h)) (ev_far rfl rfl) (fun _ => by kernel_rfl) (fun _ => rfl)) ?_
      refine And.intro (ob_load rfl (wt_dep (c := true) (b := true) (g := 5) rfl (by kernel_rfl) rfl rfl rfl (by exact fun _ _ h => h)) (ev_dep (j := 6) (by kernel_rfl) rfl rfl) (fun w2 hb => run_load1 Tryz.underlying40 rfl ((B0.below hb).cell 2)) (fun _ _ => rfl)) ?_
      refine And.intro (ob_fieldAddr rfl (wt_dep (c := true) (b := true) (g := 5) rfl (by kernel_rfl) rfl rfl rfl (by exact fun _ _ h => h)) (ev_far rfl rfl) (fun _ => by kernel_rfl) (fun _ => rfl)) ?_
      refine And.intro (ob_load rfl (wt_dep (c := true) (b := true) (g := 5) rfl (by kernel_rfl) rfl rfl rfl (by exact fun _ _ h => h)) (ev_dep (j := 8) (by kernel_rfl) rfl rfl) (fun w2 hb => run_load1 Tryz.underlying40 rfl ((B1.below hb).cell 2)) (fun _ _ => rfl)) ?_
      refine And.intro (ob_call2 rfl Tryz.func64 (by kernel_rfl) (wt_dep (c := true) (b := true) (g := 5) rfl (by kernel_rfl) rfl rfl rfl (by exact fun _ _ h => h)) (ev_dep (j := 7) (by kernel_rfl) rfl rfl) (ev_dep (j := 9) (by kernel_rfl) rfl rfl) (fun w2 u0 u1 hb h0 h1 => by obtain rfl := h0; obtain rfl := h1; exact (same_num _ _ x.den y.den b _ (k0d.below hb) (k1d.below hb) HB.out).mono fun e w3 h => RetV.pd h)) ?_
      refine And.intro (ob_pick (b := true) rfl (wt_none rfl) (ev_dep (j := 5) (by kernel_rfl) rfl rfl) (ev_dep (j := 10) (by kernel_rfl) rfl rfl) (fun _ _ h => h)) ?_
      refine And.intro (ob_assign rfl (wt_none rfl) (ev_dep (j := 11) (by kernel_rfl) rfl rfl) (fun _ _ h => h)) ?_
      trivial
    case done24 =>
      refine fun w11 hb11 v0 h0 v1 h1 v2 h2 v3 h3 v4 h4 v5 h5 v6 h6 v7 h7 v8 h8 v9 h9 v10 h10 v11 h11 v12 h12 b hbf => ?_
      obtain rfl := h0; obtain rfl := h1; obtain rfl := h2; obtain rfl := h3; obtain rfl := h4; obtain rfl := h5; obtain rfl := h6; obtain rfl := h7; obtain rfl := h8; obtain rfl := h9; obtain rfl := h10; obtain rfl := h11; obtain rfl := h12
      simp only [Act.put, List.setIfInBounds_toArray, List.set_cons_zero, List.set_cons_succ] at hbf
      subst hbf
      replace B0 := B0.below hb11
      replace k0s := k0s.below hb11
      replace k0d := k0d.below hb11
      replace k0z := k0z.below hb11
      replace k0 := k0.below hb11
      replace B1 := B1.below hb11
      replace k1s := k1s.below hb11
      replace k1d := k1d.below hb11
      replace k1z := k1z.below hb11
      replace k1 := k1.below hb11
      replace bb := bb.trans (hb11.mono bb.size)
      have hsz11 := bb.size
      refine ops_done ?_
      go_wp2
      go_ret
      exact ⟨rfl, bb⟩
  · obtain rfl : b = false := by rw [hb, decide_eq_false_iff_not]; exact fun e => hn (by rw [e])
    clear hb
    have HN := Lib.hid hn
    clear hn
    obtain ⟨u0, t0, rfl, s0, r0⟩ := h0
    obtain ⟨A0, c0, rfl, _⟩ := id s0
    obtain ⟨D0, e0, rfl, _⟩ := id r0
    obtain ⟨u1, t1, rfl, s1, r1⟩ := h1
    obtain ⟨A1, c1, rfl, _⟩ := id s1
    obtain ⟨D1, e1, rfl, _⟩ := id r1
    go_enter Tryz.func21, Tryz.ntmps21
    go_upto_region 1 with (fail)
    obtain ⟨wx, hwx, bb, B0, B1, hsz⟩ := vars2 w 44 44 #[.bool (ngB (x).num), .slice A0 (digs 4294967296 (x).num.natAbs).length c0, .slice D0 (digs 4294967296 (x).den).length e0] #[.bool (ngB (y).num), .slice A1 (digs 4294967296 (y).num.natAbs).length c1, .slice D1 (digs 4294967296 (y).den).length e1]
    rw [hwx]
    clear hwx
    have k0s := s0.below bb
    have k0d := r0.below bb
    have k0z : IsZ wx (.agg #[.bool (ngB (x).num), .slice A0 (digs 4294967296 (x).num.natAbs).length c0]) (x).num := ⟨_, rfl, k0s⟩
    have k0 : IsQ wx (.agg #[.bool (ngB (x).num), .slice A0 (digs 4294967296 (x).num.natAbs).length c0, .slice D0 (digs 4294967296 (x).den).length e0]) (x) := ⟨_, _, rfl, k0s, k0d⟩
    have k1s := s1.below bb
    have k1d := r1.below bb
    have k1z : IsZ wx (.agg #[.bool (ngB (y).num), .slice A1 (digs 4294967296 (y).num.natAbs).length c1]) (y).num := ⟨_, rfl, k1s⟩
    have k1 : IsQ wx (.agg #[.bool (ngB (y).num), .slice A1 (digs 4294967296 (y).num.natAbs).length c1, .slice D1 (digs 4294967296 (y).den).length e1]) (y) := ⟨_, _, rfl, k1s, k1d⟩
    have hsz0 := bb.size
    have sB := bb.size
    refine flowp 13 [Pd.eq (.pointer (some ⟨w.heap.size, 0, none⟩)), Pd.eq (.agg #[.bool (ngB (x).num), .slice A0 (digs 4294967296 (x).num.natAbs).length c0]), Pd.eq (.pointer (some ⟨w.heap.size + 1, 0, none⟩)), Pd.eq (.agg #[.bool (ngB (y).num), .slice A1 (digs 4294967296 (y).num.natAbs).length c1]), Pd.eq (.bool false), Pd.eq (.bool false), Pd.any, Pd.any, Pd.any, Pd.any, Pd.any, Pd.eq (.bool false), Pd.eq (.bool false)] (by kernel_rfl) ?ob25 ?done25
    case ob25 =>
      refine And.intro (ob_fieldAddr rfl (wt_none rfl) (ev_far rfl rfl) (fun _ => by kernel_rfl) (fun _ => rfl)) ?_
      refine And.intro (ob_load rfl (wt_none rfl) (ev_dep (j := 0) (by kernel_rfl) rfl rfl) (fun w2 hb => run_loadPart Tryz.underlying42 rfl (by kernel_rfl) (B0.below hb) rfl) (fun _ _ => rfl)) ?_
      refine And.intro (ob_fieldAddr rfl (wt_none rfl) (ev_far rfl rfl) (fun _ => by kernel_rfl) (fun _ => rfl)) ?_
      refine And.intro (ob_load rfl (wt_none rfl) (ev_dep (j := 2) (by kernel_rfl) rfl rfl) (fun w2 hb => run_loadPart Tryz.underlying42 rfl (by kernel_rfl) (B1.below hb) rfl) (fun _ _ => rfl)) ?_
      refine And.intro (ob_call2 rfl Tryz.func63 (by kernel_rfl) (wt_none rfl) (ev_dep (j := 1) (by kernel_rfl) rfl rfl) (ev_dep (j := 3) (by kernel_rfl) rfl rfl) (fun w2 u0 u1 hb h0 h1 => by obtain rfl := h0; obtain rfl := h1; exact (zsame_any _ x.num _ y.num false _ (k0z.below hb) (k1z.below hb) (decide_eq_false HN.out).symm).mono fun e w3 h => RetV.pd h)) ?_
      refine And.intro (ob_move rfl (wt_none rfl) (ev_dep (j := 4) (by kernel_rfl) rfl rfl) (fun _ _ h => h)) ?_
      refine And.intro (ob_not (wt_dep (c := false) (b := true) (g := 5) rfl (by kernel_rfl) rfl rfl rfl (by exact fun _ _ h => h)) (fun _ => trivial) rfl) ?_
      refine And.intro (ob_not (wt_dep (c := false) (b := true) (g := 5) rfl (by kernel_rfl) rfl rfl rfl (by exact fun _ _ h => h)) (fun _ => trivial) rfl) ?_
      refine And.intro (ob_not (wt_dep (c := false) (b := true) (g := 5) rfl (by kernel_rfl) rfl rfl rfl (by exact fun _ _ h => h)) (fun _ => trivial) rfl) ?_
      refine And.intro (ob_not (wt_dep (c := false) (b := true) (g := 5) rfl (by kernel_rfl) rfl rfl rfl (by exact fun _ _ h => h)) (fun _ => trivial) rfl) ?_
      refine And.intro (ob_not (wt_dep (c := false) (b := true) (g := 5) rfl (by kernel_rfl) rfl rfl rfl (by exact fun _ _ h => h)) (fun _ => trivial) rfl) ?_
      refine And.intro (ob_pick (b := false) rfl (wt_none rfl) (ev_dep (j := 5) (by kernel_rfl) rfl rfl) (ev_const _) (fun _ _ h => h)) ?_
      refine And.intro (ob_assign rfl (wt_none rfl) (ev_dep (j := 11) (by kernel_rfl) rfl rfl) (fun _ _ h => h)) ?_
      trivial
    case done25 =>
      refine fun w11 hb11 v0 h0 v1 h1 v2 h2 v3 h3 v4 h4 v5 h5 v6 h6 v7 h7 v8 h8 v9 h9 v10 h10 v11 h11 v12 h12 b hbf => ?_
      obtain rfl := h0; obtain rfl := h1; obtain rfl := h2; obtain rfl := h3; obtain rfl := h4; obtain rfl := h5; obtain rfl := h11; obtain rfl := h12
      clear h6
      clear h7
      clear h8
      clear h9
      clear h10
      simp only [Act.put, List.setIfInBounds_toArray, List.set_cons_zero, List.set_cons_succ] at hbf
      subst hbf
      replace B0 := B0.below hb11
      replace k0s := k0s.below hb11
      replace k0d := k0d.below hb11
      replace k0z := k0z.below hb11
      replace k0 := k0.below hb11
      replace B1 := B1.below hb11
      replace k1s := k1s.below hb11
      replace k1d := k1d.below hb11
      replace k1z := k1z.below hb11
      replace k1 := k1.below hb11
      replace bb := bb.trans (hb11.mono bb.size)
      have hsz11 := bb.size
      refine ops_done ?_
      go_wp2
      go_ret
      exact ⟨rfl, bb⟩
/-- The fraction that Clean makes of any. -/
def lowD (d : Nat) : Nat := if d = 0 then 1 else d
theorem lowD_pos (d : Nat) : lowD d ≠ 0 := by unfold lowD; split <;> omega
theorem lowD_len {d m : Nat} (h : (digs 4294967296 d).length ≤ m) (hm : 1 ≤ m) : (digs 4294967296 (lowD d)).length ≤ m := by
  unfold lowD
  split
  · exact Nat.le_trans (digs_len_le (k := 1) (by omega) (by omega)) hm
  · exact h
def cleanQ (b : Bool) (l m : List Nat) (most : Nat) : Rat := mkRat (cleanZ b l most) (lowD (cleaned m most))
theorem cleanQ_len (b : Bool) (l m : List Nat) {most : Nat} (hm : 1 ≤ most) : lenQ (cleanQ b l m most) most := lenQ_mk (lowD_pos _) (cleanZ_len _ _ _) (lowD_len (cleaned_len _ _) hm)
set_option maxHeartbeats 6400000 in
set_option maxRecDepth 100000 in
theorem qclean_any (b : Bool) (v u : Value) (l m : List Nat) (mI : Int) (most : Nat) (w : World) (hmI : mI = (most : Int)) (h0 : IsS w .u64 v l) (u0 : Lt 18446744073709551616 l) (h1 : IsS w .u64 u m) (u1 : Lt 18446744073709551616 m) (hmost : most ≤ 1000) (hm1 : 1 ≤ most) :
    Calls Tryz.prog 39 #[.agg #[.bool b, v, u], .int .i64 mI] w (RetQ (cleanQ b l m most) w) := by
  obtain ⟨A0, c0, rfl, _⟩ := id h0
  obtain ⟨D0, e0, rfl, _⟩ := id h1
  have HM := Lib.hid hmI
  clear hmI
  obtain ⟨y, hy⟩ : ∃ y, y = cleaned m most := ⟨_, rfl⟩
  have my : (digs 4294967296 y).length ≤ most := by rw [hy]; exact cleaned_len _ _
  have HY := Lib.hid hy.symm
  obtain ⟨x, hx⟩ : ∃ x, x = cleanZ b l most := ⟨_, rfl⟩
  have lx : lenZ x ≤ most := by rw [hx]; exact cleanZ_len _ _ _
  have HX := Lib.hid hx.symm
  have HQ : Hid (cleanQ b l m most = mkRat x (lowD y)) := by show _ = _; unfold cleanQ; rw [hx, hy]
  clear hx hy
  go_enter Tryz.func39, Tryz.ntmps39
  go_upto_region 1 with (fail)
  obtain ⟨wx, hwx, bb, B0, B1, hsz⟩ := vars2 w 44 44 #[.bool b, .slice A0 l.length c0, .slice D0 m.length e0] #[.bool false, .slice none 0 0, .slice none 0 0]
  rw [hwx]
  clear hwx
  have k0s := h0.below bb
  have k0d := h1.below bb
  obtain ⟨x00, x01, x02, _, _, _⟩ := three B0
  have hs0 := bb.size
  go_wp2_with fail
  refine (HY.out ▸ clean_any _ m _ most _ HM.out k0d u1 (Nat.le_trans hmost (by decide))).mono ?_
  rintro e w1 ⟨v1, rfl, k1, f1, b1⟩
  obtain ⟨A1, c1, rfl, _⟩ := id k1
  replace B0 := B0.below b1
  replace B1 := B1.below b1
  replace k0s := k0s.below b1
  replace bb := bb.trans (b1.mono bb.size)
  have hs1 := bb.size
  clear x00 x01 x02 k0d
  have HL1 : Hid (lenZ x ≤ 30000) := Nat.le_trans lx (by omega)
  have HL2 : Hid ((digs 4294967296 (lowD y)).length ≤ 30000) := Nat.le_trans (lowD_len my (by omega)) (by omega)
  have HLQ : Hid (lenQ (mkRat x (lowD y)) 30000) := lenQ_mk (lowD_pos y) HL1.out HL2.out
  by_cases hy0 : y = 0
  · have HZ : Hid ((digs 4294967296 y).length = 0) := by show _ = _; rw [hy0, digs_zero]; rfl
    have HO : Hid (digs 4294967296 (lowD y) = [1]) := by show _ = _; rw [hy0]; exact digs_one 1 (by omega) (by omega)
    have hz0 : (digs 4294967296 y).length = 0 := HZ.out
    clear hy0
    have bA := below_alloc (Nat.le_refl w1.heap.size) (.cells #[.int .u64 1] 116)
    have k1o := (own_lit1 w1 w1.heap.size 116 .u64 (show (1 : Int) = ((1 : Nat) : Int) from rfl) (Nat.le_refl _)).isS
    rw [← HO.out] at k1o
    replace k0s := k0s.below bA
    obtain ⟨x10, x11, x12, _, _, _⟩ := three (B0.below bA)
    replace B1 := B1.below bA
    replace bb := bb.trans (bA.mono bb.size)
    have hs2 := bb.size
    clear k1 f1
    go_wp2_with fail
    refine (HX.out ▸ zclean_any b _ l _ most _ HM.out k0s u0 (Nat.le_trans hmost (by decide))).mono ?_
    rintro e w2 ⟨v2, rfl, k2, f2, b2⟩
    replace B1 := B1.below b2
    replace k1o := k1o.below b2
    replace bb := bb.trans (b2.mono bb.size)
    have hs3 := bb.size
    go_wp2_with fail
    refine (rof_any _ x _ k2 HL1.out).mono ?_
    rintro e w3 ⟨v3, rfl, k3, b3⟩
    replace B1 := B1.below b3
    replace k1o := k1o.below b3
    replace bb := bb.trans (b3.mono bb.size)
    have hs4 := bb.size
    go_wp2_with fail
    refine (refOf_any _ (lowD y) _ k1o (Nat.le_trans HL2.out (by decide))).mono ?_
    rintro e w4 ⟨v4, rfl, k4, f4, b4⟩
    replace B1 := B1.below b4
    replace k3 := k3.below b4
    replace bb := bb.trans (b4.mono bb.size)
    have hs5 := bb.size
    go_wp2_with fail
    refine (rlow_any _ x _ (lowD y) _ k3 k4 (lowD_pos y) HL1.out HL2.out).mono ?_
    rintro e w5 ⟨v5, rfl, k5, f5, b5⟩
    replace B1 := B1.below b5
    replace bb := bb.trans (b5.mono bb.size)
    have hs6 := bb.size
    have hg5 := B1.lt
    go_wp2_with fail
    refine (qback_any _ _ _ k5 HLQ.out).mono ?_
    rintro e w6 ⟨v6, rfl, ⟨u6, t6, rfl, k6, d6⟩, f6, b6⟩
    obtain ⟨A6, c6, rfl, _⟩ := id k6
    obtain ⟨D6, e6, rfl, _⟩ := id d6
    replace B1 := B1.below b6
    replace bb := bb.trans (b6.mono bb.size)
    obtain ⟨y0, y1, y2, z0, z1, z2⟩ := three B1
    go_wp2
    exact bodyPost_ret (v := .agg #[.bool (ngB (mkRat x (lowD y)).num), .slice A6 (digs 4294967296 (mkRat x (lowD y)).num.natAbs).length c6, .slice D6 (digs 4294967296 (mkRat x (lowD y)).den).length e6]) (by simp [results, Tryz.results39, go_sem, y0, y1, y2]) rfl (by rw [HQ.out]; exact endQ bb (by omega) hg5 k6 d6 f6)
  · have HZ : 0 < (digs 4294967296 y).length := len_pos (by omega)
    have HO : Hid (lowD y = y) := if_neg hy0
    clear hy0
    obtain ⟨x10, x11, x12, _, _, _⟩ := three B0
    have k1o : IsS w1 .u64 (.slice A1 (digs 4294967296 y).length c1) (digs 4294967296 (lowD y)) := by rw [HO.out]; exact k1
    go_wp2_with fail
    refine (HX.out ▸ zclean_any b _ l _ most _ HM.out k0s u0 (Nat.le_trans hmost (by decide))).mono ?_
    rintro e w2 ⟨v2, rfl, k2, f2, b2⟩
    replace B1 := B1.below b2
    replace k1o := k1o.below b2
    replace bb := bb.trans (b2.mono bb.size)
    have hs3 := bb.size
    go_wp2_with fail
    refine (rof_any _ x _ k2 HL1.out).mono ?_
    rintro e w3 ⟨v3, rfl, k3, b3⟩
    replace B1 := B1.below b3
    replace k1o := k1o.below b3
    replace bb := bb.trans (b3.mono bb.size)
    have hs4 := bb.size
    go_wp2_with fail
    refine (refOf_any _ (lowD y) _ k1o (Nat.le_trans HL2.out (by decide))).mono ?_
    rintro e w4 ⟨v4, rfl, k4, f4, b4⟩
    replace B1 := B1.below b4
    replace k3 := k3.below b4
    replace bb := bb.trans (b4.mono bb.size)
    have hs5 := bb.size
    go_wp2_with fail
    refine (rlow_any _ x _ (lowD y) _ k3 k4 (lowD_pos y) HL1.out HL2.out).mono ?_
    rintro e w5 ⟨v5, rfl, k5, f5, b5⟩
    replace B1 := B1.below b5
    replace bb := bb.trans (b5.mono bb.size)
    have hs6 := bb.size
    have hg5 := B1.lt
    go_wp2_with fail
    refine (qback_any _ _ _ k5 HLQ.out).mono ?_
    rintro e w6 ⟨v6, rfl, ⟨u6, t6, rfl, k6, d6⟩, f6, b6⟩
    obtain ⟨A6, c6, rfl, _⟩ := id k6
    obtain ⟨D6, e6, rfl, _⟩ := id d6
    replace B1 := B1.below b6
    replace bb := bb.trans (b6.mono bb.size)
    obtain ⟨y0, y1, y2, z0, z1, z2⟩ := three B1
    go_wp2
    exact bodyPost_ret (v := .agg #[.bool (ngB (mkRat x (lowD y)).num), .slice A6 (digs 4294967296 (mkRat x (lowD y)).num.natAbs).length c6, .slice D6 (digs 4294967296 (mkRat x (lowD y)).den).length e6]) (by simp [results, Tryz.results39, go_sem, y0, y1, y2]) rfl (by rw [HQ.out]; exact endQ bb (by omega) hg5 k6 d6 f6)
end Go.Proofs.YtfnohdgnhdfpaaaGreat.rat
namespace Go.Proofs.YtfnohdgnhdfpaaaGreat.rat
open Go.RowKit Go.Proofs.YtfnohdgnhdfpaaaGreat.num Go.Proofs.YtfnohdgnhdfpaaaGreat.mem Go.Proofs.YtfnohdgnhdfpaaaGreat.nat Go.Proofs.YtfnohdgnhdfpaaaGreat.flow
set_option linter.unusedVariables false
theorem IsS.cut {w : World} {k : IntKind} {A : Option Addr} {c : Nat} {l : List Nat} (h : IsS w k (.slice A l.length c) l) (m : Nat) : IsS w k (.slice A (min l.length m) c) (l.take m) := by
  obtain ⟨A', c', e, h1, h2, h3⟩ := h
  injection e with e1 e2 e3
  subst e1; subst e3
  refine ⟨A, c, by rw [List.length_take, Nat.min_comm], by rw [List.length_take]; omega, h2, fun i d hd => ?_⟩
  rw [List.getElem?_take] at hd
  split at hd
  · exact h3 i d hd
  · cases hd
end Go.Proofs.YtfnohdgnhdfpaaaGreat.rat
namespace Go.Proofs.YtfnohdgnhdfpaaaGreat.rat
open Go.RowKit Go.Proofs.YtfnohdgnhdfpaaaGreat.num Go.Proofs.YtfnohdgnhdfpaaaGreat.mem Go.Proofs.YtfnohdgnhdfpaaaGreat.nat Go.Proofs.YtfnohdgnhdfpaaaGreat.txt Go.Proofs.YtfnohdgnhdfpaaaGreat.str Go.Proofs.YtfnohdgnhdfpaaaGreat.flow Go.Proofs.YtfnohdgnhdfpaaaGreat.whl
set_option linter.unusedVariables false
theorem mk_num_eq (z : Int) {d : Nat} (hd : d ≠ 0) : (mkRat z d).num = z / ((z.natAbs.gcd d : Nat) : Int) := by
  rw [Rat.num_mkRat, if_neg hd, Nat.gcd_comm]
/-- The upper part, and what it divides. -/
theorem mk_upper (z : Int) {d : Nat} (hd : d ≠ 0) : z = (mkRat z d).num * ((z.natAbs.gcd d : Nat) : Int) := by
  rw [mk_num_eq z hd, Int.ediv_mul_cancel (Int.ofNat_dvd_left.2 (Nat.gcd_dvd_left _ _))]
theorem add_parts (x y : Rat) {g a b : Nat} (hg : g = x.den.gcd y.den) (ha : a = x.den / g) (hb : b = y.den / g) : (x + y).num = (mkRat (x.num * (b : Int) + y.num * (a : Int)) g).num ∧ (x + y).den = a * b * (mkRat (x.num * (b : Int) + y.num * (a : Int)) g).den := by
  have gp : 0 < g := by rw [hg]; exact Nat.gcd_pos_of_pos_left _ x.den_pos
  have haux := Rat.add.aux x y hg ha hb
  have e1 : x.den = a * g := by rw [ha, Nat.div_mul_cancel (by rw [hg]; exact Nat.gcd_dvd_left _ _)]
  have e2 : y.den = b * g := by rw [hb, Nat.div_mul_cancel (by rw [hg]; exact Nat.gcd_dvd_right _ _)]
  obtain ⟨S, hS⟩ : ∃ S, S = x.num * (b : Int) + y.num * (a : Int) := ⟨_, rfl⟩
  rw [← hS]
  have haux : S.natAbs.gcd g = S.natAbs.gcd (a * y.den) := by rw [hS]; exact haux
  have e3 : x + y = mkRat S (a * y.den) := by
    rw [Rat.add_def', show x.num * (y.den : Int) + y.num * (x.den : Int) = S * (g : Int) by rw [hS, e1, e2, Int.natCast_mul, Int.natCast_mul, Int.add_mul, Int.mul_assoc, Int.mul_assoc], show x.den * y.den = a * y.den * g by rw [e1]; rw [Nat.mul_assoc, Nat.mul_comm g, ← Nat.mul_assoc], Rat.mkRat_mul_right (by omega)]
  have ne : a * y.den ≠ 0 := Nat.mul_ne_zero (fun e => x.den_nz (by rw [e1, e, Nat.zero_mul])) y.den_nz
  rw [e3]
  constructor
  · rw [mk_num_eq S ne, mk_num_eq S (by omega), haux]
  · rw [mk_den S ne, mk_den S (by omega), ← haux, e2, ← Nat.mul_assoc, Nat.mul_div_assoc _ (Nat.gcd_dvd_right _ _)]
theorem eq_parts {x y : Rat} : x = y ↔ x.num = y.num ∧ x.den = y.den := ⟨fun h => by rw [h]; exact ⟨rfl, rfl⟩, fun h => Rat.ext h.1 h.2⟩
/-- A whole number, and a number, both in new memory. -/
def RetZS (z : Int) (d : Nat) (w : World) (e : Ending) (w' : World) : Prop := ∃ v u, e = .returned (.tuple #[v, u]) ∧ IsZ w' v z ∧ IsS w' .u64 u (digs 4294967296 d) ∧ FreshZ w.heap.size v ∧ Fresh w.heap.size u ∧ Below w.heap.size w w'
def pzs (z : Int) (d : Nat) (B : Nat) : Pd := ⟨fun w t => ∃ v u, t = .tuple #[v, u] ∧ IsZ w v z ∧ IsS w .u64 u (digs 4294967296 d) ∧ FreshZ B v ∧ Fresh B u, fun h hb => by obtain ⟨v, u, e, h1, h2, h3, h4⟩ := h; exact ⟨v, u, e, h1.below hb, h2.below hb, h3, h4⟩⟩
theorem RetZS.pd {z : Int} {d : Nat} {w : World} {e : Ending} {w' : World} {B : Nat} (h : RetZS z d w e w') (hB : B ≤ w.heap.size) : RetPd (pzs z d B) w e w' := by
  obtain ⟨v, u, h1, h2, h3, h4, h5, h6⟩ := h
  exact ⟨_, h1, ⟨v, u, rfl, h2, h3, h4.mono hB, h5.mono hB⟩, h6⟩
/-- A fraction in new memory, and an error's number. -/
def RetQF (q : Rat) (n : Int) (w : World) (e : Ending) (w' : World) : Prop := ∃ v, e = .returned (.tuple #[v, .int .i64 n]) ∧ IsQ w' v q ∧ FreshQ w.heap.size v ∧ Below w.heap.size w w'
def pqf (q : Rat) (n : Int) (B : Nat) : Pd := ⟨fun w t => ∃ v, t = .tuple #[v, .int .i64 n] ∧ IsQ w v q ∧ FreshQ B v, fun h hb => by obtain ⟨v, e, h1, h2⟩ := h; exact ⟨v, e, h1.below hb, h2⟩⟩
theorem RetQF.pd {q : Rat} {n : Int} {w : World} {e : Ending} {w' : World} {B : Nat} (h : RetQF q n w e w') (hB : B ≤ w.heap.size) : RetPd (pqf q n B) w e w' := by
  obtain ⟨v, h1, h2, h3, h4⟩ := h
  exact ⟨_, h1, ⟨v, rfl, h2, h3.mono hB⟩, h4⟩
theorem RetQF.e {q : Rat} {n : Int} {w : World} {e : Ending} {w' : World} (h : RetQF q n w e w') : RetQE q n w e w' := by
  obtain ⟨v, h1, h2, _, h4⟩ := h
  exact ⟨v, h1, h2, h4⟩
theorem RetZ.to {x y : Int} {w : World} {e : Ending} {w' : World} (h : RetZ x w e w') (k : x = y) : RetZ y w e w' := k ▸ h
theorem RetS.to {l m : List Nat} {w : World} {e : Ending} {w' : World} (h : RetS .u64 l w e w') (k : l = m) : RetS .u64 m w e w' := k ▸ h
theorem RetQ.to {x y : Rat} {w : World} {e : Ending} {w' : World} (h : RetQ x w e w') (k : x = y) : RetQ y w e w' := k ▸ h
/-- A struct of a sign, a slice told, and a new number. -/
def pbq (b : Bool) (S : Value) (l : List Nat) (B : Nat) : Pd := ⟨fun w v => ∃ A c, v = .agg #[.bool b, S, .slice A l.length c] ∧ IsS w .u64 (.slice A l.length c) l ∧ Fresh B (.slice A l.length c), fun h hb => by obtain ⟨A, c, e, h1, h2⟩ := h; exact ⟨A, c, e, h1.below hb, h2⟩⟩
set_option maxHeartbeats 1600000 in
set_option maxRecDepth 100000 in
theorem unsigned_any (a0 : Value) (x : Nat) (w : World) (h0 : IsS w .u64 a0 (digs 4294967296 x)) :
    Calls Tryz.prog 129 #[a0] w (RetV (.agg #[.bool false, a0]) w) := by
  have s0 := h0
  obtain ⟨A0, c0, rfl, _⟩ := id s0
  go_enter Tryz.func129, Tryz.ntmps129
  go_upto_region 1 with (fail)
  obtain ⟨wx, hwx, bb, BR0, hsz⟩ := vars1 w 42 #[.bool false, .slice none 0 0]
  rw [hwx]
  clear hwx
  have k0 := s0.below bb
  have hsz0 := bb.size
  have sB := bb.size
  refine flowp 2 [Pd.eq (.slice A0 (digs 4294967296 x).length c0), Pd.eq (.agg #[.bool false, .slice A0 (digs 4294967296 x).length c0])] (by kernel_rfl) ?ob1 ?done1
  case ob1 =>
    refine And.intro (ob_move rfl (wt_none rfl) (ev_far rfl rfl) (fun _ _ h => h)) ?_
    refine And.intro (ob_build1b rfl (wt_none rfl) (ev_dep (j := 0) (by kernel_rfl) rfl rfl) (fun w2 u hb hu => by obtain rfl := hu; exact ⟨.agg #[.bool false, .slice A0 (digs 4294967296 x).length c0], by kernel_rfl, rfl⟩)) ?_
    trivial
  case done1 =>
    refine fun w1 hb1 v0 h0 v1 h1 b hbf => ?_
    obtain rfl := h0; obtain rfl := h1
    simp only [Act.put, List.setIfInBounds_toArray, List.set_cons_zero, List.set_cons_succ] at hbf
    subst hbf
    replace BR0 := BR0.below hb1
    replace k0 := k0.below hb1
    replace bb := bb.trans (hb1.mono bb.size)
    have hsz1 := bb.size
    refine ops_store (i := 2) rfl rfl rfl rfl rfl rfl (cells := [.bool false, .slice A0 (digs 4294967296 x).length c0]) rfl BR0 rfl (by kernel_rfl) (one2 rfl rfl) fun w9 hg9 B9 => ?_
    have bb9 := bb.trans ((Below.refl _ _).grown hg9 bb.size (fun g hg => by injection hg with hg; omega))
    obtain ⟨C0, C1, _, _⟩ := Blk.two B9
    refine ops_done ?_
    go_wp2
    exact bodyPost_ret (v := .agg #[.bool false, .slice A0 (digs 4294967296 x).length c0]) (by simp [results, Tryz.results129, go_sem, C0, C1]) rfl ⟨rfl, bb9⟩
theorem unsigned_pd (a0 : Value) (x : Nat) (w : World) (h0 : IsS w .u64 a0 (digs 4294967296 x)) : Calls Tryz.prog 129 #[a0] w (RetPd (pi ((x : Nat) : Int)) w) :=
  (unsigned_any a0 x w h0).mono fun e w' h => ⟨_, h.1, isZ_mk (h0.below h.2) (Int.natAbs_natCast _) (ngB_of_pos (by omega)).symm, h.2⟩
set_option maxHeartbeats 1600000 in
set_option maxRecDepth 100000 in
theorem times_any (a0 : Value) (x : Nat) (a1 : Value) (y : Nat) (w : World) (h0 : IsS w .u64 a0 (digs 4294967296 x)) (h1 : IsS w .u64 a1 (digs 4294967296 y)) (hl : (digs 4294967296 x).length ≤ 100000) (hl2 : (digs 4294967296 y).length ≤ 100000) :
    Calls Tryz.prog 83 #[a0, a1] w (RetS .u64 (digs 4294967296 (x * y)) w) := by
  have s0 := h0
  obtain ⟨A0, c0, rfl, _⟩ := id s0
  have s1 := h1
  obtain ⟨A1, c1, rfl, _⟩ := id s1
  have bb : Below w.heap.size w w := Below.refl _ _
  have HM : Hid (((x * y : Nat) : Int) = ((x : Nat) : Int) * ((y : Nat) : Int)) := Int.natCast_mul x y
  have HL1 : Hid (lenZ ((x : Nat) : Int) ≤ 100000) := by show _ ≤ _; rw [lenD]; omega
  have HL2 : Hid (lenZ ((y : Nat) : Int) ≤ 100000) := by show _ ≤ _; rw [lenD]; omega
  go_enter Tryz.func83, Tryz.ntmps83
  go_upto_region 1 with (fail)
  have k0 := s0.below bb
  have k1 := s1.below bb
  have hsz0 := bb.size
  have sB := bb.size
  refine flowp 7 [Pd.eq (.slice A0 (digs 4294967296 x).length c0), pi (((x : Nat) : Int)), Pd.eq (.slice A1 (digs 4294967296 y).length c1), pi (((y : Nat) : Int)), pz (((x * y : Nat) : Int)) w.heap.size, ps .u64 (digs 4294967296 (x * y)) w.heap.size, ps .u64 (digs 4294967296 (x * y)) w.heap.size] (by kernel_rfl) ?ob2 ?done2
  case ob2 =>
    refine And.intro (ob_move rfl (wt_none rfl) (ev_far rfl rfl) (fun _ _ h => h)) ?_
    refine And.intro (ob_call1 rfl Tryz.func129 (by kernel_rfl) (wt_none rfl) (ev_dep (j := 0) (by kernel_rfl) rfl rfl) (fun w2 u0 hb h0 => by obtain rfl := h0; exact unsigned_pd _ (x) _ (k0.below hb))) ?_
    refine And.intro (ob_move rfl (wt_none rfl) (ev_far rfl rfl) (fun _ _ h => h)) ?_
    refine And.intro (ob_call1 rfl Tryz.func129 (by kernel_rfl) (wt_none rfl) (ev_dep (j := 2) (by kernel_rfl) rfl rfl) (fun w2 u0 hb h0 => by obtain rfl := h0; exact unsigned_pd _ (y) _ (k1.below hb))) ?_
    refine And.intro (ob_call2 rfl Tryz.func82 (by kernel_rfl) (wt_none rfl) (ev_dep (j := 1) (by kernel_rfl) rfl rfl) (ev_dep (j := 3) (by kernel_rfl) rfl rfl) (fun w2 u0 u1 hb h0 h1 => by exact (zmul_any _ _ _ _ _ _ h0 h1 HL1.out HL2.out HM.out).mono fun e w3 h => RetZ.pd h hb.size)) ?_
    refine And.intro (ob_field rfl (wt_none rfl) (ev_dep (j := 4) (by kernel_rfl) rfl rfl) (fun w2 u hu => by obtain ⟨⟨u', rfl, q'⟩, f'⟩ := hu; exact ⟨u', by kernel_rfl, q', f' _ _ rfl⟩)) ?_
    refine And.intro (ob_assign rfl (wt_none rfl) (ev_dep (j := 5) (by kernel_rfl) rfl rfl) (fun _ _ h => h)) ?_
    trivial
  case done2 =>
    refine fun w1 hb1 v0 h0 v1 h1 v2 h2 v3 h3 v4 h4 v5 h5 v6 h6 b hbf => ?_
    obtain rfl := h0; obtain rfl := h2
    have q1 := h1
    have q3 := h3
    obtain ⟨q4, f4⟩ := h4
    obtain ⟨q5, f5⟩ := h5
    obtain ⟨q6, f6⟩ := h6
    simp only [Act.put, List.setIfInBounds_toArray, List.set_cons_zero, List.set_cons_succ] at hbf
    subst hbf
    replace k0 := k0.below hb1
    replace k1 := k1.below hb1
    replace bb := bb.trans (hb1.mono bb.size)
    have hsz1 := bb.size
    have s_4 := sB
    have s_5 := sB
    have s_6 := sB
    refine ops_done ?_
    go_wp2
    go_ret
    exact ⟨_, rfl, q6, f6.mono s_6, bb⟩
set_option maxHeartbeats 1600000 in
set_option maxRecDepth 100000 in
theorem reduced_any (a0 : Value) (z : Int) (a1 : Value) (d : Nat) (U : Int) (L : Nat) (w : World) (h0 : IsZ w a0 z) (h1 : IsS w .u64 a1 (digs 4294967296 d)) (hd : d ≠ 0) (hl : lenZ z ≤ 20000) (hl2 : (digs 4294967296 d).length ≤ 20000) (hU : U = (mkRat z d).num) (hL : L = (mkRat z d).den) :
    Calls Tryz.prog 81 #[a0, a1] w (RetZS U L w) := by
  obtain ⟨u0, rfl, s0⟩ := h0
  obtain ⟨A0, c0, rfl, _⟩ := id s0
  have s1 := h1
  obtain ⟨A1, c1, rfl, _⟩ := id s1
  obtain ⟨G, hG⟩ : ∃ G, G = Nat.gcd z.natAbs d := ⟨_, rfl⟩
  have hGp : 0 < G := by rw [hG]; exact Nat.gcd_pos_of_pos_right _ (by omega)
  have hGd : G ≤ d := by rw [hG]; exact Nat.le_of_dvd (by omega) (Nat.gcd_dvd_right _ _)
  have HL1 : Hid ((digs 4294967296 z.natAbs).length ≤ 90000) := Nat.le_trans hl (by decide)
  have HL2 : Hid ((digs 4294967296 d).length ≤ 90000) := Nat.le_trans hl2 (by decide)
  have HL3 : Hid (lenZ ((G : Nat) : Int) ≤ 20000) := by show _ ≤ _; rw [lenD]; exact Nat.le_trans (digs_len_mono (by omega) hGd) hl2
  have HL4 : Hid ((digs 4294967296 G).length ≤ 90000) := Nat.le_trans (digs_len_mono (by omega) hGd) HL2.out
  have HG : Hid (gcds [z.natAbs, d] = G) := by show _ = _; rw [hG]; simp [gcds]
  have HU : Hid (z = U * ((G : Nat) : Int)) := by show _ = _; rw [hU, hG]; exact mk_upper z hd
  have HM : Hid (d % G = 0) := by show _ = _; rw [hG]; exact Nat.mod_eq_zero_of_dvd (Nat.gcd_dvd_right _ _)
  have HQ : Hid (L = d / G) := by show _ = _; rw [hL, hG]; exact mk_den z hd
  have HN : Hid (((G : Nat) : Int) ≠ 0) := by show _ ≠ _; omega
  clear hG hU hL hGd
  go_enter Tryz.func81, Tryz.ntmps81
  go_upto_region 1 with (fail)
  obtain ⟨wx, hwx, bb, B0, BR0, hsz⟩ := vars2 w 42 42 #[.bool (ngB z), .slice A0 (digs 4294967296 (z).natAbs).length c0] #[.bool false, .slice none 0 0]
  rw [hwx]
  clear hwx
  have k0s := s0.below bb
  have k0 : IsZ wx (.agg #[.bool (ngB z), .slice A0 (digs 4294967296 (z).natAbs).length c0]) (z) := isZ_mk k0s rfl rfl
  have k1 := s1.below bb
  have hsz0 := bb.size
  obtain ⟨x00, x01, _, _⟩ := Blk.two B0
  go_wp2_with fail
  have hbA := below_alloc (Nat.le_refl wx.heap.size) (.cells #[.slice A0 (digs 4294967296 (z).natAbs).length c0, .slice A1 (digs 4294967296 d).length c1] 40)
  refine (ggcd_any _ [_, _] [z.natAbs, d] _ (isV_lit wx 40 [_, _]) (nums2 (k0s.below hbA) (k1.below hbA)) (by simp) (by intro q hq; simp at hq; rcases hq with rfl | rfl; exact HL1.out; exact HL2.out)).mono ?_
  rintro e w1 ⟨v1, rfl, kg, kgf, b1⟩
  have hb1 := hbA.trans (b1.mono hbA.size)
  rw [HG.out] at kg
  clear x00 x01
  replace B0 := B0.below hb1
  replace k0s := k0s.below hb1
  replace k0 := k0.below hb1
  replace BR0 := BR0.below hb1
  replace k1 := k1.below hb1
  replace bb := bb.trans (hb1.mono bb.size)
  have hsz1 := bb.size
  obtain ⟨Akg, ckg, rfl, _⟩ := id kg
  have sB := bb.size
  go_upto_region 2 with (fail)
  have lt1_2 := Blk.lt B0
  have lt1_4 := Blk.lt BR0
  refine flowl 8 [Pd.eq (.agg #[.bool (ngB z), .slice A0 (digs 4294967296 (z).natAbs).length c0]), Pd.eq (.slice Akg (digs 4294967296 G).length ckg), pi (((G : Nat) : Int)), pze (U) 0 w1.heap.size, pze (U) 0 w1.heap.size, pz (U) w1.heap.size, Pd.eq (.int .i64 0), pn 42 #[.bool false, .slice none 0 0] w1.heap.size] (by kernel_rfl) 6 rfl (by kernel_rfl) (fun _ _ _ _ h => h) (late_extract rfl rfl (ev_dep (j := 4) (by kernel_rfl) rfl rfl) (fun w2 u hu => by obtain ⟨v, rfl, q1, q2⟩ := hu; exact ⟨_, fun _ => rfl, rfl⟩)) ?ob3 ?done3
  case ob3 =>
    refine And.intro (ob_load rfl (wt_none rfl) (ev_far rfl rfl) (fun w2 hb => run_loadAll Tryz.underlying42 rfl (by kernel_rfl) (B0.drew.below hb)) (fun _ _ => rfl)) ?_
    refine And.intro (ob_move rfl (wt_none rfl) (ev_far rfl rfl) (fun _ _ h => h)) ?_
    refine And.intro (ob_call1 rfl Tryz.func129 (by kernel_rfl) (wt_none rfl) (ev_dep (j := 1) (by kernel_rfl) rfl rfl) (fun w2 u0 hb h0 => by obtain rfl := h0; exact unsigned_pd _ (G) _ (kg.drew.below hb))) ?_
    refine And.intro (ob_call2 rfl Tryz.func128 (by kernel_rfl) (wt_none rfl) (ev_dep (j := 0) (by kernel_rfl) rfl rfl) (ev_dep (j := 2) (by kernel_rfl) rfl rfl) (fun w2 u0 u1 hb h0 h1 => by obtain rfl := h0; exact (zexact_ok _ z _ _ U _ (k0.drew.below hb) h1 hl HL3.out HN.out HU.out).mono fun e w3 h => RetZE.pd h hb.size)) ?_
    refine And.intro (ob_move rfl (wt_none rfl) (ev_dep (j := 3) (by kernel_rfl) rfl rfl) (fun _ _ h => h)) ?_
    refine And.intro (ob_extract rfl (wt_none rfl) (ev_dep (j := 4) (by kernel_rfl) rfl rfl) (fun w2 u hu => by obtain ⟨v, rfl, q1, q2⟩ := hu; exact ⟨v, rfl, q1, q2⟩)) ?_
    refine And.intro (ob_extract rfl (wt_none rfl) (ev_dep (j := 4) (by kernel_rfl) rfl rfl) (fun w2 u hu => by obtain ⟨v, rfl, q1, q2⟩ := hu; exact ⟨_, rfl, rfl⟩)) ?_
    refine And.intro (ob_alloc (z := .agg #[.bool false, .slice none 0 0]) rfl rfl (fun _ => by kernel_rfl) (fun _ _ hB h => ⟨_, rfl, hB, h⟩)) ?_
    trivial
  case done3 =>
    refine fun w2 hb2 v0 h0 v1 h1 v2 h2 v3 h3 v4 h4 v5 h5 v6 h6 v7 h7 d7 b hbf => ?_
    obtain rfl := h0; obtain rfl := h1; obtain rfl := h6
    have q2 := h2
    clear h3
    clear h4
    obtain ⟨q5, f5⟩ := h5
    obtain ⟨g3_7, rfl, hg7, B7⟩ := h7
    simp only [Act.put, List.setIfInBounds_toArray, List.set_cons_zero, List.set_cons_succ] at hbf
    subst hbf
    replace B0 := B0.below hb2
    replace k0s := k0s.below hb2
    replace k0 := k0.below hb2
    replace BR0 := BR0.below hb2
    replace k1 := k1.below hb2
    replace kg := kg.below hb2
    replace bb := bb.trans (hb2.mono bb.size)
    have hsz2 := bb.size
    have s_5 := sB
    have BA7 := B7
    obtain ⟨u5, rfl, q5⟩ := q5
    obtain ⟨A7, c7, rfl, _⟩ := id q5
    refine any_store (i := 8) (by kernel_rfl) rfl rfl rfl rfl rfl rfl (cells := [.bool (ngB U), .slice A7 (digs 4294967296 (U).natAbs).length c7]) rfl BA7 rfl (by kernel_rfl) (one2 rfl rfl) fun w3 hg3 BN3 => ?_
    replace q5 := off q5 BA7 no_ints2 hg3
    replace k1 := off k1 BA7 no_ints2 hg3
    replace kg := off kg BA7 no_ints2 hg3
    replace k0s := off k0s BA7 no_ints2 hg3
    replace k0 : IsZ w3 (.agg #[.bool (ngB z), .slice A0 (digs 4294967296 (z).natAbs).length c0]) (z) := ⟨_, rfl, k0s⟩
    replace B0 := B0.grown hg3 (by omega)
    replace BR0 := BR0.grown hg3 (by omega)
    replace bb := bb.trans ((Below.refl _ _).grown hg3 bb.size (fun g hg => by injection hg with hg; omega))
    have hsz3 := bb.size
    have B7 : Blk w3 (g3_7) _ _ := BN3
    have k7s := q5
    have k7 : IsZ w3 (.agg #[.bool (ngB U), .slice A7 (digs 4294967296 (U).natAbs).length c7]) (U) := ⟨_, rfl, k7s⟩
    refine any_assign (i := 9) (.int .i64 0) (by kernel_rfl) rfl rfl rfl rfl rfl fun b hbf => ?_
    simp only [Act.put, List.setIfInBounds_toArray, List.set_cons_zero, List.set_cons_succ] at hbf
    subst hbf
    refine any_done (by kernel_rfl) ?_
    have f7_ := (f5 _ _ rfl).mono s_5
    have sB := bb.size
    go_upto_region 3 with (fail)
    refine flowp 8 [Pd.eq (.slice A1 (digs 4294967296 d).length c1), Pd.eq (.slice Akg (digs 4294967296 G).length ckg), pt .u64 (digs 4294967296 L) 0 w3.heap.size, pt .u64 (digs 4294967296 L) 0 w3.heap.size, ps .u64 (digs 4294967296 L) w3.heap.size, Pd.eq (.int .i64 0), ps .u64 (digs 4294967296 L) w3.heap.size, Pd.eq (.int .i64 0)] (by kernel_rfl) ?ob4 ?done4
    case ob4 =>
      refine And.intro (ob_move rfl (wt_none rfl) (ev_far rfl rfl) (fun _ _ h => h)) ?_
      refine And.intro (ob_move rfl (wt_none rfl) (ev_far rfl rfl) (fun _ _ h => h)) ?_
      refine And.intro (ob_call2 rfl Tryz.func130 (by kernel_rfl) (wt_none rfl) (ev_dep (j := 0) (by kernel_rfl) rfl rfl) (ev_dep (j := 1) (by kernel_rfl) rfl rfl) (fun w2 u0 u1 hb h0 h1 => by obtain rfl := h0; obtain rfl := h1; exact (dexact_ok _ _ d G _ (k1.below hb) (kg.below hb) HL2.out HL4.out hGp L HM.out HQ.out).mono fun e w3 h => RetSI.pd h hb.size)) ?_
      refine And.intro (ob_move rfl (wt_none rfl) (ev_dep (j := 2) (by kernel_rfl) rfl rfl) (fun _ _ h => h)) ?_
      refine And.intro (ob_extract rfl (wt_none rfl) (ev_dep (j := 3) (by kernel_rfl) rfl rfl) (fun w2 u hu => by obtain ⟨v, rfl, q1, q2⟩ := hu; exact ⟨v, rfl, q1, q2⟩)) ?_
      refine And.intro (ob_extract rfl (wt_none rfl) (ev_dep (j := 3) (by kernel_rfl) rfl rfl) (fun w2 u hu => by obtain ⟨v, rfl, q1, q2⟩ := hu; exact ⟨_, rfl, rfl⟩)) ?_
      refine And.intro (ob_assign rfl (wt_none rfl) (ev_dep (j := 4) (by kernel_rfl) rfl rfl) (fun _ _ h => h)) ?_
      refine And.intro (ob_assign rfl (wt_none rfl) (ev_dep (j := 5) (by kernel_rfl) rfl rfl) (fun _ _ h => h)) ?_
      trivial
    case done4 =>
      refine fun w4 hb4 v0 h0 v1 h1 v2 h2 v3 h3 v4 h4 v5 h5 v6 h6 v7 h7 b hbf => ?_
      obtain rfl := h0; obtain rfl := h1; obtain rfl := h5; obtain rfl := h7
      clear h2
      clear h3
      obtain ⟨q4, f4⟩ := h4
      obtain ⟨q6, f6⟩ := h6
      simp only [Act.put, List.setIfInBounds_toArray, List.set_cons_zero, List.set_cons_succ] at hbf
      subst hbf
      replace B0 := B0.below hb4
      replace k0s := k0s.below hb4
      replace k0 := k0.below hb4
      replace BR0 := BR0.below hb4
      replace B7 := B7.below hb4
      replace k7s := k7s.below hb4
      replace k7 := k7.below hb4
      replace k1 := k1.below hb4
      replace kg := kg.below hb4
      replace bb := bb.trans (hb4.mono bb.size)
      have hsz4 := bb.size
      have s_4 := sB
      have s_6 := sB
      refine ops_done ?_
      obtain ⟨A9, c9, rfl, _⟩ := id q6
      have n9 := q6
      have n9f := f6
      have n9z_ := s_6
      have sB := bb.size
      go_upto_region 4 with (fail)
      refine flowp 2 [Pd.eq (.agg #[.bool (ngB U), .slice A7 (digs 4294967296 (U).natAbs).length c7]), Pd.eq (.slice A9 (digs 4294967296 L).length c9)] (by kernel_rfl) ?ob5 ?done5
      case ob5 =>
        refine And.intro (ob_load rfl (wt_none rfl) (ev_far rfl rfl) (fun w2 hb => run_loadAll Tryz.underlying42 rfl (by kernel_rfl) (B7.below hb)) (fun _ _ => rfl)) ?_
        refine And.intro (ob_move rfl (wt_none rfl) (ev_far rfl rfl) (fun _ _ h => h)) ?_
        trivial
      case done5 =>
        refine fun w5 hb5 v0 h0 v1 h1 b hbf => ?_
        obtain rfl := h0; obtain rfl := h1
        simp only [Act.put, List.setIfInBounds_toArray, List.set_cons_zero, List.set_cons_succ] at hbf
        subst hbf
        replace B0 := B0.below hb5
        replace k0s := k0s.below hb5
        replace k0 := k0.below hb5
        replace BR0 := BR0.below hb5
        replace B7 := B7.below hb5
        replace k7s := k7s.below hb5
        replace k7 := k7.below hb5
        replace k1 := k1.below hb5
        replace kg := kg.below hb5
        replace n9 := n9.below hb5
        replace bb := bb.trans (hb5.mono bb.size)
        have hsz5 := bb.size
        refine ops_store (i := 2) rfl rfl rfl rfl rfl rfl (cells := [.bool (ngB U), .slice A7 (digs 4294967296 (U).natAbs).length c7]) rfl BR0 rfl (by kernel_rfl) (one2 rfl rfl) fun wx9 hg9 BX9 => ?_
        have m9 := off k7s BR0 no_ints2 hg9
        have l9 := off n9 BR0 no_ints2 hg9
        have bb9 := bb.trans ((Below.refl _ _).grown hg9 bb.size (fun g hg => by injection hg with hg; omega))
        obtain ⟨C0, C1, _, _⟩ := Blk.two BX9
        refine ops_assign (i := 3) (.slice A9 (digs 4294967296 L).length c9) rfl rfl rfl rfl rfl fun b hbf => ?_
        simp only [Act.put, List.setIfInBounds_toArray, List.set_cons_zero, List.set_cons_succ] at hbf
        subst hbf
        refine ops_done ?_
        go_wp2
        exact bodyPost_ret (v := .tuple #[.agg #[.bool (ngB U), .slice A7 (digs 4294967296 (U).natAbs).length c7], .slice A9 (digs 4294967296 L).length c9]) (by simp [results, Tryz.results81, go_sem, C0, C1]) rfl ⟨_, _, rfl, isZ_mk m9 rfl rfl, l9, freshZ_mk f7_, n9f.mono n9z_, bb9⟩
set_option maxHeartbeats 1600000 in
set_option maxRecDepth 100000 in
theorem fsign0_any (a0 : Value) (x : Rat) (t : Int) (w : World) (h0 : IsQ w a0 x) (ht : t = ordz x.num 0) :
    Calls Tryz.prog 77 #[a0] w (RetV (.int .i64 t) w) := by
  obtain ⟨u0, t0, rfl, s0, r0⟩ := h0
  obtain ⟨A0, c0, rfl, _⟩ := id s0
  obtain ⟨D0, e0, rfl, _⟩ := id r0
  have HT := Lib.hid ht
  clear ht
  go_enter Tryz.func77, Tryz.ntmps77
  go_upto_region 1 with (fail)
  obtain ⟨wx, hwx, bb, B0, hsz⟩ := vars1 w 44 #[.bool (ngB (x).num), .slice A0 (digs 4294967296 (x).num.natAbs).length c0, .slice D0 (digs 4294967296 (x).den).length e0]
  rw [hwx]
  clear hwx
  have k0s := s0.below bb
  have k0d := r0.below bb
  have k0z : IsZ wx (.agg #[.bool (ngB (x).num), .slice A0 (digs 4294967296 (x).num.natAbs).length c0]) (x).num := ⟨_, rfl, k0s⟩
  have k0 : IsQ wx (.agg #[.bool (ngB (x).num), .slice A0 (digs 4294967296 (x).num.natAbs).length c0, .slice D0 (digs 4294967296 (x).den).length e0]) (x) := ⟨_, _, rfl, k0s, k0d⟩
  have hsz0 := bb.size
  have sB := bb.size
  refine flowp 4 [Pd.eq (.pointer (some ⟨w.heap.size, 0, none⟩)), Pd.eq (.agg #[.bool (ngB (x).num), .slice A0 (digs 4294967296 (x).num.natAbs).length c0]), Pd.eq (.int .i64 t), Pd.eq (.int .i64 t)] (by kernel_rfl) ?ob7 ?done7
  case ob7 =>
    refine And.intro (ob_fieldAddr rfl (wt_none rfl) (ev_far rfl rfl) (fun _ => by kernel_rfl) (fun _ => rfl)) ?_
    refine And.intro (ob_load rfl (wt_none rfl) (ev_dep (j := 0) (by kernel_rfl) rfl rfl) (fun w2 hb => run_loadPart Tryz.underlying42 rfl (by kernel_rfl) (B0.below hb) rfl) (fun _ _ => rfl)) ?_
    refine And.intro (ob_call1 rfl Tryz.func124 (by kernel_rfl) (wt_none rfl) (ev_dep (j := 1) (by kernel_rfl) rfl rfl) (fun w2 u0 hb h0 => by obtain rfl := h0; exact (sign_any _ x.num t _ (k0z.below hb) HT.out).mono fun e w3 h => RetV.pd h)) ?_
    refine And.intro (ob_assign rfl (wt_none rfl) (ev_dep (j := 2) (by kernel_rfl) rfl rfl) (fun _ _ h => h)) ?_
    trivial
  case done7 =>
    refine fun w1 hb1 v0 h0 v1 h1 v2 h2 v3 h3 b hbf => ?_
    obtain rfl := h0; obtain rfl := h1; obtain rfl := h2; obtain rfl := h3
    simp only [Act.put, List.setIfInBounds_toArray, List.set_cons_zero, List.set_cons_succ] at hbf
    subst hbf
    replace B0 := B0.below hb1
    replace k0s := k0s.below hb1
    replace k0d := k0d.below hb1
    replace k0z := k0z.below hb1
    replace k0 := k0.below hb1
    replace bb := bb.trans (hb1.mono bb.size)
    have hsz1 := bb.size
    refine ops_done ?_
    go_wp2
    go_ret
    exact ⟨rfl, bb⟩
set_option maxHeartbeats 3200000 in
set_option maxRecDepth 100000 in
theorem add9_any (a0 : Value) (x : Rat) (a1 : Value) (y : Rat) (w : World) (h0 : IsQ w a0 x) (h1 : IsQ w a1 y) (hl : lenQ x 4900) (hl2 : lenQ y 4900) :
    Calls Tryz.prog 93 #[a0, a1] w (RetQ (x + y) w) := by
  obtain ⟨u0, t0, rfl, s0, r0⟩ := h0
  obtain ⟨A0, c0, rfl, _⟩ := id s0
  obtain ⟨D0, e0, rfl, _⟩ := id r0
  obtain ⟨u1, t1, rfl, s1, r1⟩ := h1
  obtain ⟨A1, c1, rfl, _⟩ := id s1
  obtain ⟨D1, e1, rfl, _⟩ := id r1
  obtain ⟨G, hG⟩ : ∃ G, G = Nat.gcd x.den y.den := ⟨_, rfl⟩
  obtain ⟨m1, ha⟩ : ∃ m1, m1 = x.den / G := ⟨_, rfl⟩
  obtain ⟨m2, hb_⟩ : ∃ m2, m2 = y.den / G := ⟨_, rfl⟩
  have hGp : 0 < G := by rw [hG]; exact Nat.gcd_pos_of_pos_left _ x.den_pos
  have hGd : G ≤ x.den := by rw [hG]; exact Nat.gcd_le_left _ x.den_pos
  obtain ⟨S, hS⟩ : ∃ S, S = (x.num * ((m2 : Nat) : Int) + y.num * ((m1 : Nat) : Int)) := ⟨_, rfl⟩
  obtain ⟨U, hU⟩ : ∃ U, U = (mkRat S G).num := ⟨_, rfl⟩
  obtain ⟨L, hL⟩ : ∃ L, L = (mkRat S G).den := ⟨_, rfl⟩
  obtain ⟨Q, hQ⟩ : ∃ Q, Q = x + y := ⟨_, rfl⟩
  have HQ0 : Hid (x + y = Q) := hQ.symm
  have HP := add_parts x y hG ha hb_
  rw [← hS, ← hU, ← hL, ← hQ] at HP
  have HQN := Lib.hid HP.1
  have HQD := Lib.hid HP.2
  have lx1 := hl.1
  have lx2 := hl.2
  have ly1 := hl2.1
  have ly2 := hl2.2
  have la : (digs 4294967296 m1).length ≤ 4900 := Nat.le_trans (digs_len_mono (by omega) (by rw [ha]; exact Nat.div_le_self _ _)) lx2
  have lb : (digs 4294967296 m2).length ≤ 4900 := Nat.le_trans (digs_len_mono (by omega) (by rw [hb_]; exact Nat.div_le_self _ _)) ly2
  have lG : (digs 4294967296 G).length ≤ 4900 := Nat.le_trans (digs_len_mono (by omega) hGd) lx2
  have lza : lenZ ((m1 : Nat) : Int) ≤ 4900 := by rw [lenD]; exact la
  have lzb : lenZ ((m2 : Nat) : Int) ≤ 4900 := by rw [lenD]; exact lb
  have lp : lenZ (x.num * ((m2 : Nat) : Int)) ≤ 9800 := lenZ_mul_le lx1 lzb
  have lq : lenZ (y.num * ((m1 : Nat) : Int)) ≤ 9800 := lenZ_mul_le ly1 lza
  have lS : lenZ S ≤ 19601 := by rw [hS]; exact lenZ_add_le lp lq
  have HL1 : Hid ((digs 4294967296 x.den).length ≤ 90000) := Nat.le_trans lx2 (by decide)
  have HL2 : Hid ((digs 4294967296 y.den).length ≤ 90000) := Nat.le_trans ly2 (by decide)
  have lL : (digs 4294967296 L).length ≤ 4900 := Nat.le_trans (digs_len_mono (by omega) (by rw [hL, mk_den S (by omega)]; exact Nat.div_le_self _ _)) lG
  have lab : (digs 4294967296 (m1 * m2)).length ≤ 9800 := by have := mul_len m1 m2; omega
  have HG : Hid (gcds [x.den, y.den] = G) := by show _ = _; rw [hG]; simp [gcds]
  have HM1 : Hid (x.den % G = 0) := by show _ = _; rw [hG]; exact Nat.mod_eq_zero_of_dvd (Nat.gcd_dvd_left _ _)
  have HM2 : Hid (y.den % G = 0) := by show _ = _; rw [hG]; exact Nat.mod_eq_zero_of_dvd (Nat.gcd_dvd_right _ _)
  have HA := Lib.hid ha
  have HB := Lib.hid hb_
  have HS : Hid ((x.num * ((m2 : Nat) : Int) + y.num * ((m1 : Nat) : Int)) = S) := hS.symm
  have HU := Lib.hid hU
  have HL := Lib.hid hL
  have HGn : Hid (G ≠ 0) := by show _ ≠ _; omega
  clear hG ha hb_ hS hU hL hQ HP
  go_enter Tryz.func93, Tryz.ntmps93
  go_upto_region 1 with (fail)
  obtain ⟨wx, hwx, bb, B0, B1, BR0, hsz⟩ := vars3 w 44 44 44 #[.bool (ngB (x).num), .slice A0 (digs 4294967296 (x).num.natAbs).length c0, .slice D0 (digs 4294967296 (x).den).length e0] #[.bool (ngB (y).num), .slice A1 (digs 4294967296 (y).num.natAbs).length c1, .slice D1 (digs 4294967296 (y).den).length e1] #[.bool false, .slice none 0 0, .slice none 0 0]
  rw [hwx]
  clear hwx
  have k0s := s0.below bb
  have k0d := r0.below bb
  have k0z : IsZ wx (.agg #[.bool (ngB (x).num), .slice A0 (digs 4294967296 (x).num.natAbs).length c0]) (x).num := ⟨_, rfl, k0s⟩
  have k0 : IsQ wx (.agg #[.bool (ngB (x).num), .slice A0 (digs 4294967296 (x).num.natAbs).length c0, .slice D0 (digs 4294967296 (x).den).length e0]) (x) := ⟨_, _, rfl, k0s, k0d⟩
  have k1s := s1.below bb
  have k1d := r1.below bb
  have k1z : IsZ wx (.agg #[.bool (ngB (y).num), .slice A1 (digs 4294967296 (y).num.natAbs).length c1]) (y).num := ⟨_, rfl, k1s⟩
  have k1 : IsQ wx (.agg #[.bool (ngB (y).num), .slice A1 (digs 4294967296 (y).num.natAbs).length c1, .slice D1 (digs 4294967296 (y).den).length e1]) (y) := ⟨_, _, rfl, k1s, k1d⟩
  have hsz0 := bb.size
  obtain ⟨x00, x01, x02, _, _, _⟩ := three B0
  obtain ⟨x10, x11, x12, _, _, _⟩ := three B1
  go_wp2_with fail
  have hbA := below_alloc (Nat.le_refl wx.heap.size) (.cells #[.slice D0 (digs 4294967296 (x).den).length e0, .slice D1 (digs 4294967296 (y).den).length e1] 40)
  refine (ggcd_any _ [_, _] [x.den, y.den] _ (isV_lit wx 40 [_, _]) (nums2 (k0d.below hbA) (k1d.below hbA)) (by simp) (by intro q hq; simp at hq; rcases hq with rfl | rfl; exact HL1.out; exact HL2.out)).mono ?_
  rintro e w1 ⟨v1, rfl, kg, kgf, b1⟩
  have hb1 := hbA.trans (b1.mono hbA.size)
  rw [HG.out] at kg
  clear x00 x01 x02 x10 x11 x12
  replace B0 := B0.below hb1
  replace k0s := k0s.below hb1
  replace k0d := k0d.below hb1
  replace k0z := k0z.below hb1
  replace k0 := k0.below hb1
  replace B1 := B1.below hb1
  replace k1s := k1s.below hb1
  replace k1d := k1d.below hb1
  replace k1z := k1z.below hb1
  replace k1 := k1.below hb1
  replace BR0 := BR0.below hb1
  replace bb := bb.trans (hb1.mono bb.size)
  have hsz1 := bb.size
  obtain ⟨Akg, ckg, rfl, _⟩ := id kg
  have sB := bb.size
  go_upto_region 2 with (fail)
  refine flowp 9 [Pd.eq (.pointer (some ⟨w.heap.size, 2, none⟩)), Pd.eq (.slice D0 (digs 4294967296 (x).den).length e0), Pd.eq (.slice Akg (digs 4294967296 G).length ckg), pt .u64 (digs 4294967296 m1) 0 w1.heap.size, pt .u64 (digs 4294967296 m1) 0 w1.heap.size, ps .u64 (digs 4294967296 m1) w1.heap.size, Pd.eq (.int .i64 0), ps .u64 (digs 4294967296 m1) w1.heap.size, Pd.eq (.int .i64 0)] (by kernel_rfl) ?ob37 ?done37
  case ob37 =>
    refine And.intro (ob_fieldAddr rfl (wt_none rfl) (ev_far rfl rfl) (fun _ => by kernel_rfl) (fun _ => rfl)) ?_
    refine And.intro (ob_load rfl (wt_none rfl) (ev_dep (j := 0) (by kernel_rfl) rfl rfl) (fun w2 hb => run_load1 Tryz.underlying40 rfl ((B0.below hb).cell 2)) (fun _ _ => rfl)) ?_
    refine And.intro (ob_move rfl (wt_none rfl) (ev_far rfl rfl) (fun _ _ h => h)) ?_
    refine And.intro (ob_call2 rfl Tryz.func130 (by kernel_rfl) (wt_none rfl) (ev_dep (j := 1) (by kernel_rfl) rfl rfl) (ev_dep (j := 2) (by kernel_rfl) rfl rfl) (fun w2 u0 u1 hb h0 h1 => by obtain rfl := h0; obtain rfl := h1; exact (dexact_ok _ _ x.den G _ (k0d.below hb) (kg.below hb) HL1.out (Nat.le_trans lG (by decide)) hGp m1 HM1.out HA.out).mono fun e w3 h => RetSI.pd h hb.size)) ?_
    refine And.intro (ob_move rfl (wt_none rfl) (ev_dep (j := 3) (by kernel_rfl) rfl rfl) (fun _ _ h => h)) ?_
    refine And.intro (ob_extract rfl (wt_none rfl) (ev_dep (j := 4) (by kernel_rfl) rfl rfl) (fun w2 u hu => by obtain ⟨v, rfl, q1, q2⟩ := hu; exact ⟨v, rfl, q1, q2⟩)) ?_
    refine And.intro (ob_extract rfl (wt_none rfl) (ev_dep (j := 4) (by kernel_rfl) rfl rfl) (fun w2 u hu => by obtain ⟨v, rfl, q1, q2⟩ := hu; exact ⟨_, rfl, rfl⟩)) ?_
    refine And.intro (ob_assign rfl (wt_none rfl) (ev_dep (j := 5) (by kernel_rfl) rfl rfl) (fun _ _ h => h)) ?_
    refine And.intro (ob_assign rfl (wt_none rfl) (ev_dep (j := 6) (by kernel_rfl) rfl rfl) (fun _ _ h => h)) ?_
    trivial
  case done37 =>
    refine fun w2 hb2 v0 h0 v1 h1 v2 h2 v3 h3 v4 h4 v5 h5 v6 h6 v7 h7 v8 h8 b hbf => ?_
    obtain rfl := h0; obtain rfl := h1; obtain rfl := h2; obtain rfl := h6; obtain rfl := h8
    clear h3
    clear h4
    obtain ⟨q5, f5⟩ := h5
    obtain ⟨q7, f7⟩ := h7
    simp only [Act.put, List.setIfInBounds_toArray, List.set_cons_zero, List.set_cons_succ] at hbf
    subst hbf
    replace B0 := B0.below hb2
    replace k0s := k0s.below hb2
    replace k0d := k0d.below hb2
    replace k0z := k0z.below hb2
    replace k0 := k0.below hb2
    replace B1 := B1.below hb2
    replace k1s := k1s.below hb2
    replace k1d := k1d.below hb2
    replace k1z := k1z.below hb2
    replace k1 := k1.below hb2
    replace BR0 := BR0.below hb2
    replace kg := kg.below hb2
    replace bb := bb.trans (hb2.mono bb.size)
    have hsz2 := bb.size
    have s_5 := sB
    have s_7 := sB
    refine ops_done ?_
    obtain ⟨A6, c6, rfl, _⟩ := id q7
    have n6 := q7
    have n6f := f7
    have n6z_ := s_7
    have sB := bb.size
    go_upto_region 3 with (fail)
    refine flowp 9 [Pd.eq (.pointer (some ⟨w.heap.size + 1, 2, none⟩)), Pd.eq (.slice D1 (digs 4294967296 (y).den).length e1), Pd.eq (.slice Akg (digs 4294967296 G).length ckg), pt .u64 (digs 4294967296 m2) 0 w2.heap.size, pt .u64 (digs 4294967296 m2) 0 w2.heap.size, ps .u64 (digs 4294967296 m2) w2.heap.size, Pd.eq (.int .i64 0), ps .u64 (digs 4294967296 m2) w2.heap.size, Pd.eq (.int .i64 0)] (by kernel_rfl) ?ob38 ?done38
    case ob38 =>
      refine And.intro (ob_fieldAddr rfl (wt_none rfl) (ev_far rfl rfl) (fun _ => by kernel_rfl) (fun _ => rfl)) ?_
      refine And.intro (ob_load rfl (wt_none rfl) (ev_dep (j := 0) (by kernel_rfl) rfl rfl) (fun w2 hb => run_load1 Tryz.underlying40 rfl ((B1.below hb).cell 2)) (fun _ _ => rfl)) ?_
      refine And.intro (ob_move rfl (wt_none rfl) (ev_far rfl rfl) (fun _ _ h => h)) ?_
      refine And.intro (ob_call2 rfl Tryz.func130 (by kernel_rfl) (wt_none rfl) (ev_dep (j := 1) (by kernel_rfl) rfl rfl) (ev_dep (j := 2) (by kernel_rfl) rfl rfl) (fun w2 u0 u1 hb h0 h1 => by obtain rfl := h0; obtain rfl := h1; exact (dexact_ok _ _ y.den G _ (k1d.below hb) (kg.below hb) HL2.out (Nat.le_trans lG (by decide)) hGp m2 HM2.out HB.out).mono fun e w3 h => RetSI.pd h hb.size)) ?_
      refine And.intro (ob_move rfl (wt_none rfl) (ev_dep (j := 3) (by kernel_rfl) rfl rfl) (fun _ _ h => h)) ?_
      refine And.intro (ob_extract rfl (wt_none rfl) (ev_dep (j := 4) (by kernel_rfl) rfl rfl) (fun w2 u hu => by obtain ⟨v, rfl, q1, q2⟩ := hu; exact ⟨v, rfl, q1, q2⟩)) ?_
      refine And.intro (ob_extract rfl (wt_none rfl) (ev_dep (j := 4) (by kernel_rfl) rfl rfl) (fun w2 u hu => by obtain ⟨v, rfl, q1, q2⟩ := hu; exact ⟨_, rfl, rfl⟩)) ?_
      refine And.intro (ob_assign rfl (wt_none rfl) (ev_dep (j := 5) (by kernel_rfl) rfl rfl) (fun _ _ h => h)) ?_
      refine And.intro (ob_assign rfl (wt_none rfl) (ev_dep (j := 6) (by kernel_rfl) rfl rfl) (fun _ _ h => h)) ?_
      trivial
    case done38 =>
      refine fun w3 hb3 v0 h0 v1 h1 v2 h2 v3 h3 v4 h4 v5 h5 v6 h6 v7 h7 v8 h8 b hbf => ?_
      obtain rfl := h0; obtain rfl := h1; obtain rfl := h2; obtain rfl := h6; obtain rfl := h8
      clear h3
      clear h4
      obtain ⟨q5, f5⟩ := h5
      obtain ⟨q7, f7⟩ := h7
      simp only [Act.put, List.setIfInBounds_toArray, List.set_cons_zero, List.set_cons_succ] at hbf
      subst hbf
      replace B0 := B0.below hb3
      replace k0s := k0s.below hb3
      replace k0d := k0d.below hb3
      replace k0z := k0z.below hb3
      replace k0 := k0.below hb3
      replace B1 := B1.below hb3
      replace k1s := k1s.below hb3
      replace k1d := k1d.below hb3
      replace k1z := k1z.below hb3
      replace k1 := k1.below hb3
      replace BR0 := BR0.below hb3
      replace kg := kg.below hb3
      replace n6 := n6.below hb3
      replace bb := bb.trans (hb3.mono bb.size)
      have hsz3 := bb.size
      have s_5 := sB
      have s_7 := sB
      refine ops_done ?_
      obtain ⟨A8, c8, rfl, _⟩ := id q7
      have n8 := q7
      have n8f := f7
      have n8z_ := s_7
      have sB := bb.size
      go_upto_region 4 with (fail)
      have lt3_2 := Blk.lt B0
      have lt3_3 := Blk.lt B1
      have lt3_4 := Blk.lt BR0
      refine flow 12 [Pd.eq (.pointer (some ⟨w.heap.size, 0, none⟩)), Pd.eq (.agg #[.bool (ngB (x).num), .slice A0 (digs 4294967296 (x).num.natAbs).length c0]), Pd.eq (.slice A8 (digs 4294967296 m2).length c8), pi (((m2 : Nat) : Int)), pi ((x.num * ((m2 : Nat) : Int))), Pd.eq (.pointer (some ⟨w.heap.size + 1, 0, none⟩)), Pd.eq (.agg #[.bool (ngB (y).num), .slice A1 (digs 4294967296 (y).num.natAbs).length c1]), Pd.eq (.slice A6 (digs 4294967296 m1).length c6), pi (((m1 : Nat) : Int)), pi ((y.num * ((m1 : Nat) : Int))), pz (S) w3.heap.size, pn 42 #[.bool false, .slice none 0 0] w3.heap.size] (by kernel_rfl) (by kernel_rfl) ?ob39 ?done39
      case ob39 =>
        refine And.intro (ob_fieldAddr rfl (wt_none rfl) (ev_far rfl rfl) (fun _ => by kernel_rfl) (fun _ => rfl)) ?_
        refine And.intro (ob_load rfl (wt_none rfl) (ev_dep (j := 0) (by kernel_rfl) rfl rfl) (fun w2 hb => run_loadPart Tryz.underlying42 rfl (by kernel_rfl) (B0.drew.below hb) rfl) (fun _ _ => rfl)) ?_
        refine And.intro (ob_move rfl (wt_none rfl) (ev_far rfl rfl) (fun _ _ h => h)) ?_
        refine And.intro (ob_call1 rfl Tryz.func129 (by kernel_rfl) (wt_none rfl) (ev_dep (j := 2) (by kernel_rfl) rfl rfl) (fun w2 u0 hb h0 => by obtain rfl := h0; exact unsigned_pd _ (m2) _ (n8.drew.below hb))) ?_
        refine And.intro (ob_call2 rfl Tryz.func82 (by kernel_rfl) (wt_none rfl) (ev_dep (j := 1) (by kernel_rfl) rfl rfl) (ev_dep (j := 3) (by kernel_rfl) rfl rfl) (fun w2 u0 u1 hb h0 h1 => by obtain rfl := h0; exact (zmul_any _ _ _ _ (x.num * ((m2 : Nat) : Int)) _ (k0z.drew.below hb) h1 (Nat.le_trans lx1 (by decide)) (Nat.le_trans lzb (by decide)) rfl).mono fun e w3 h => RetZ.pi h)) ?_
        refine And.intro (ob_fieldAddr rfl (wt_none rfl) (ev_far rfl rfl) (fun _ => by kernel_rfl) (fun _ => rfl)) ?_
        refine And.intro (ob_load rfl (wt_none rfl) (ev_dep (j := 5) (by kernel_rfl) rfl rfl) (fun w2 hb => run_loadPart Tryz.underlying42 rfl (by kernel_rfl) (B1.drew.below hb) rfl) (fun _ _ => rfl)) ?_
        refine And.intro (ob_move rfl (wt_none rfl) (ev_far rfl rfl) (fun _ _ h => h)) ?_
        refine And.intro (ob_call1 rfl Tryz.func129 (by kernel_rfl) (wt_none rfl) (ev_dep (j := 7) (by kernel_rfl) rfl rfl) (fun w2 u0 hb h0 => by obtain rfl := h0; exact unsigned_pd _ (m1) _ (n6.drew.below hb))) ?_
        refine And.intro (ob_call2 rfl Tryz.func82 (by kernel_rfl) (wt_none rfl) (ev_dep (j := 6) (by kernel_rfl) rfl rfl) (ev_dep (j := 8) (by kernel_rfl) rfl rfl) (fun w2 u0 u1 hb h0 h1 => by obtain rfl := h0; exact (zmul_any _ _ _ _ (y.num * ((m1 : Nat) : Int)) _ (k1z.drew.below hb) h1 (Nat.le_trans ly1 (by decide)) (Nat.le_trans lza (by decide)) rfl).mono fun e w3 h => RetZ.pi h)) ?_
        refine And.intro (ob_call2 rfl Tryz.func136 (by kernel_rfl) (wt_none rfl) (ev_dep (j := 4) (by kernel_rfl) rfl rfl) (ev_dep (j := 9) (by kernel_rfl) rfl rfl) (fun w2 u0 u1 hb h0 h1 => by exact (HS.out ▸ zadd_any _ _ _ _ _ h0 h1 (Nat.le_trans lp (by decide)) (Nat.le_trans lq (by decide))).mono fun e w3 h => RetZ.pd h hb.size)) ?_
        refine And.intro (ob_alloc (z := .agg #[.bool false, .slice none 0 0]) rfl rfl (fun _ => by kernel_rfl) (fun _ _ hB h => ⟨_, rfl, hB, h⟩)) ?_
        trivial
      case done39 =>
        refine fun w4 hb4 v0 h0 v1 h1 v2 h2 v3 h3 v4 h4 v5 h5 v6 h6 v7 h7 v8 h8 v9 h9 v10 h10 v11 h11 d11 b hbf => ?_
        obtain rfl := h0; obtain rfl := h1; obtain rfl := h2; obtain rfl := h5; obtain rfl := h6; obtain rfl := h7
        have q3 := h3
        have q4 := h4
        have q8 := h8
        have q9 := h9
        obtain ⟨q10, f10⟩ := h10
        obtain ⟨g39_11, rfl, hg11, B11⟩ := h11
        simp only [Act.put, List.setIfInBounds_toArray, List.set_cons_zero, List.set_cons_succ] at hbf
        subst hbf
        replace B0 := B0.below hb4
        replace k0s := k0s.below hb4
        replace k0d := k0d.below hb4
        replace k0z := k0z.below hb4
        replace k0 := k0.below hb4
        replace B1 := B1.below hb4
        replace k1s := k1s.below hb4
        replace k1d := k1d.below hb4
        replace k1z := k1z.below hb4
        replace k1 := k1.below hb4
        replace BR0 := BR0.below hb4
        replace kg := kg.below hb4
        replace n6 := n6.below hb4
        replace n8 := n8.below hb4
        replace bb := bb.trans (hb4.mono bb.size)
        have hsz4 := bb.size
        have s_10 := sB
        have BA10 := B11
        obtain ⟨u10, rfl, q10⟩ := q10
        obtain ⟨A10, c10, rfl, _⟩ := id q10
        refine any_store (i := 12) (by kernel_rfl) rfl rfl rfl rfl rfl rfl (cells := [.bool (ngB S), .slice A10 (digs 4294967296 (S).natAbs).length c10]) rfl BA10 rfl (by kernel_rfl) (one2 rfl rfl) fun w5 hg5 BN5 => ?_
        replace q10 := off q10 BA10 no_ints2 hg5
        replace kg := off kg BA10 no_ints2 hg5
        replace n6 := off n6 BA10 no_ints2 hg5
        replace n8 := off n8 BA10 no_ints2 hg5
        replace k0s := off k0s BA10 no_ints2 hg5
        replace k0d := off k0d BA10 no_ints2 hg5
        replace k0z : IsZ w5 (.agg #[.bool (ngB (x).num), .slice A0 (digs 4294967296 (x).num.natAbs).length c0]) ((x).num) := ⟨_, rfl, k0s⟩
        replace k0 : IsQ w5 (.agg #[.bool (ngB (x).num), .slice A0 (digs 4294967296 (x).num.natAbs).length c0, .slice D0 (digs 4294967296 (x).den).length e0]) (x) := ⟨_, _, rfl, k0s, k0d⟩
        replace B0 := B0.grown hg5 (by omega)
        replace k1s := off k1s BA10 no_ints2 hg5
        replace k1d := off k1d BA10 no_ints2 hg5
        replace k1z : IsZ w5 (.agg #[.bool (ngB (y).num), .slice A1 (digs 4294967296 (y).num.natAbs).length c1]) ((y).num) := ⟨_, rfl, k1s⟩
        replace k1 : IsQ w5 (.agg #[.bool (ngB (y).num), .slice A1 (digs 4294967296 (y).num.natAbs).length c1, .slice D1 (digs 4294967296 (y).den).length e1]) (y) := ⟨_, _, rfl, k1s, k1d⟩
        replace B1 := B1.grown hg5 (by omega)
        replace BR0 := BR0.grown hg5 (by omega)
        replace bb := bb.trans ((Below.refl _ _).grown hg5 bb.size (fun g hg => by injection hg with hg; omega))
        have hsz5 := bb.size
        have B10 : Blk w5 (g39_11) _ _ := BN5
        have k10s := q10
        have k10 : IsZ w5 (.agg #[.bool (ngB S), .slice A10 (digs 4294967296 (S).natAbs).length c10]) (S) := ⟨_, rfl, k10s⟩
        refine any_done (by kernel_rfl) ?_
        have sB := bb.size
        go_upto_region 5 with (fail)
        have lt5_2 := Blk.lt B0
        have lt5_3 := Blk.lt B1
        have lt5_4 := Blk.lt BR0
        have lt5_10 := Blk.lt B10
        refine flowp 7 [Pd.eq (.agg #[.bool (ngB S), .slice A10 (digs 4294967296 (S).natAbs).length c10]), Pd.eq (.slice Akg (digs 4294967296 G).length ckg), pzs (U) (L) w5.heap.size, pzs (U) (L) w5.heap.size, pz (U) w5.heap.size, ps .u64 (digs 4294967296 L) w5.heap.size, pn 42 #[.bool false, .slice none 0 0] w5.heap.size] (by kernel_rfl) ?ob40 ?done40
        case ob40 =>
          refine And.intro (ob_load rfl (wt_none rfl) (ev_far rfl rfl) (fun w2 hb => run_loadAll Tryz.underlying42 rfl (by kernel_rfl) (B10.below hb)) (fun _ _ => rfl)) ?_
          refine And.intro (ob_move rfl (wt_none rfl) (ev_far rfl rfl) (fun _ _ h => h)) ?_
          refine And.intro (ob_call2 rfl Tryz.func81 (by kernel_rfl) (wt_none rfl) (ev_dep (j := 0) (by kernel_rfl) rfl rfl) (ev_dep (j := 1) (by kernel_rfl) rfl rfl) (fun w2 u0 u1 hb h0 h1 => by obtain rfl := h0; obtain rfl := h1; exact (reduced_any _ S _ G U L _ (k10.below hb) (kg.below hb) HGn.out (Nat.le_trans lS (by decide)) (Nat.le_trans lG (by decide)) HU.out HL.out).mono fun e w3 h => RetZS.pd h hb.size)) ?_
          refine And.intro (ob_move rfl (wt_none rfl) (ev_dep (j := 2) (by kernel_rfl) rfl rfl) (fun _ _ h => h)) ?_
          refine And.intro (ob_extract rfl (wt_none rfl) (ev_dep (j := 3) (by kernel_rfl) rfl rfl) (fun w2 u hu => by obtain ⟨v, u, rfl, q1, q2, q3, q4⟩ := hu; exact ⟨v, rfl, q1, q3⟩)) ?_
          refine And.intro (ob_extract rfl (wt_none rfl) (ev_dep (j := 3) (by kernel_rfl) rfl rfl) (fun w2 u hu => by obtain ⟨v, u, rfl, q1, q2, q3, q4⟩ := hu; exact ⟨u, rfl, q2, q4⟩)) ?_
          refine And.intro (ob_alloc (z := .agg #[.bool false, .slice none 0 0]) rfl rfl (fun _ => by kernel_rfl) (fun _ _ hB h => ⟨_, rfl, hB, h⟩)) ?_
          trivial
        case done40 =>
          refine fun w6 hb6 v0 h0 v1 h1 v2 h2 v3 h3 v4 h4 v5 h5 v6 h6 d6 b hbf => ?_
          obtain rfl := h0; obtain rfl := h1
          clear h2
          clear h3
          obtain ⟨q4, f4⟩ := h4
          obtain ⟨q5, f5⟩ := h5
          obtain ⟨g40_6, rfl, hg6, B6⟩ := h6
          simp only [Act.put, List.setIfInBounds_toArray, List.set_cons_zero, List.set_cons_succ] at hbf
          subst hbf
          replace B0 := B0.below hb6
          replace k0s := k0s.below hb6
          replace k0d := k0d.below hb6
          replace k0z := k0z.below hb6
          replace k0 := k0.below hb6
          replace B1 := B1.below hb6
          replace k1s := k1s.below hb6
          replace k1d := k1d.below hb6
          replace k1z := k1z.below hb6
          replace k1 := k1.below hb6
          replace BR0 := BR0.below hb6
          replace B10 := B10.below hb6
          replace k10s := k10s.below hb6
          replace k10 := k10.below hb6
          replace kg := kg.below hb6
          replace n6 := n6.below hb6
          replace n8 := n8.below hb6
          replace bb := bb.trans (hb6.mono bb.size)
          have hsz6 := bb.size
          have s_4 := sB
          have s_5 := sB
          obtain ⟨A49, c49, rfl, _⟩ := id q5
          have n49 := q5
          have n49f := f5
          have n49z_ := s_5
          have BA11 := B6
          obtain ⟨u4, rfl, q4⟩ := q4
          obtain ⟨A11, c11, rfl, _⟩ := id q4
          refine ops_store (i := 7) rfl rfl rfl rfl rfl rfl (cells := [.bool (ngB U), .slice A11 (digs 4294967296 (U).natAbs).length c11]) rfl BA11 rfl (by kernel_rfl) (one2 rfl rfl) fun w7 hg7 BN7 => ?_
          replace q4 := off q4 BA11 no_ints2 hg7
          replace kg := off kg BA11 no_ints2 hg7
          replace n6 := off n6 BA11 no_ints2 hg7
          replace n8 := off n8 BA11 no_ints2 hg7
          replace n49 := off n49 BA11 no_ints2 hg7
          replace k0s := off k0s BA11 no_ints2 hg7
          replace k0d := off k0d BA11 no_ints2 hg7
          replace k0z : IsZ w7 (.agg #[.bool (ngB (x).num), .slice A0 (digs 4294967296 (x).num.natAbs).length c0]) ((x).num) := ⟨_, rfl, k0s⟩
          replace k0 : IsQ w7 (.agg #[.bool (ngB (x).num), .slice A0 (digs 4294967296 (x).num.natAbs).length c0, .slice D0 (digs 4294967296 (x).den).length e0]) (x) := ⟨_, _, rfl, k0s, k0d⟩
          replace B0 := B0.grown hg7 (by omega)
          replace k1s := off k1s BA11 no_ints2 hg7
          replace k1d := off k1d BA11 no_ints2 hg7
          replace k1z : IsZ w7 (.agg #[.bool (ngB (y).num), .slice A1 (digs 4294967296 (y).num.natAbs).length c1]) ((y).num) := ⟨_, rfl, k1s⟩
          replace k1 : IsQ w7 (.agg #[.bool (ngB (y).num), .slice A1 (digs 4294967296 (y).num.natAbs).length c1, .slice D1 (digs 4294967296 (y).den).length e1]) (y) := ⟨_, _, rfl, k1s, k1d⟩
          replace B1 := B1.grown hg7 (by omega)
          replace BR0 := BR0.grown hg7 (by omega)
          replace k10s := off k10s BA11 no_ints2 hg7
          replace k10 : IsZ w7 (.agg #[.bool (ngB S), .slice A10 (digs 4294967296 (S).natAbs).length c10]) (S) := ⟨_, rfl, k10s⟩
          replace B10 := B10.grown hg7 (by omega)
          replace bb := bb.trans ((Below.refl _ _).grown hg7 bb.size (fun g hg => by injection hg with hg; omega))
          have hsz7 := bb.size
          have B11 : Blk w7 (g40_6) _ _ := BN7
          have k11s := q4
          have k11 : IsZ w7 (.agg #[.bool (ngB U), .slice A11 (digs 4294967296 (U).natAbs).length c11]) (U) := ⟨_, rfl, k11s⟩
          refine ops_assign (i := 8) (.slice A49 (digs 4294967296 L).length c49) rfl rfl rfl rfl rfl fun b hbf => ?_
          simp only [Act.put, List.setIfInBounds_toArray, List.set_cons_zero, List.set_cons_succ] at hbf
          subst hbf
          refine ops_done ?_
          have f11_ := (f4 _ _ rfl).mono s_4
          have sB := bb.size
          go_upto_region 6 with (fail)
          refine flow 7 [Pd.eq (.agg #[.bool (ngB U), .slice A11 (digs 4294967296 (U).natAbs).length c11]), Pd.eq (.slice A6 (digs 4294967296 m1).length c6), Pd.eq (.slice A8 (digs 4294967296 m2).length c8), ps .u64 (digs 4294967296 (m1 * m2)) w7.heap.size, Pd.eq (.slice A49 (digs 4294967296 L).length c49), ps .u64 (digs 4294967296 ((m1 * m2) * L)) w7.heap.size, pbq (ngB U) (.slice A11 (digs 4294967296 (U).natAbs).length c11) (digs 4294967296 ((m1 * m2) * L)) w7.heap.size] (by kernel_rfl) (by kernel_rfl) ?ob41 ?done41
          case ob41 =>
            refine And.intro (ob_load rfl (wt_none rfl) (ev_far rfl rfl) (fun w2 hb => run_loadAll Tryz.underlying42 rfl (by kernel_rfl) (B11.drew.below hb)) (fun _ _ => rfl)) ?_
            refine And.intro (ob_move rfl (wt_none rfl) (ev_far rfl rfl) (fun _ _ h => h)) ?_
            refine And.intro (ob_move rfl (wt_none rfl) (ev_far rfl rfl) (fun _ _ h => h)) ?_
            refine And.intro (ob_call2 rfl Tryz.func83 (by kernel_rfl) (wt_none rfl) (ev_dep (j := 1) (by kernel_rfl) rfl rfl) (ev_dep (j := 2) (by kernel_rfl) rfl rfl) (fun w2 u0 u1 hb h0 h1 => by obtain rfl := h0; obtain rfl := h1; exact (times_any _ m1 _ m2 _ (n6.drew.below hb) (n8.drew.below hb) (Nat.le_trans la (by decide)) (Nat.le_trans lb (by decide))).mono fun e w3 h => RetS.pd h hb.size)) ?_
            refine And.intro (ob_move rfl (wt_none rfl) (ev_far rfl rfl) (fun _ _ h => h)) ?_
            refine And.intro (ob_call2 rfl Tryz.func83 (by kernel_rfl) (wt_none rfl) (ev_dep (j := 3) (by kernel_rfl) rfl rfl) (ev_dep (j := 4) (by kernel_rfl) rfl rfl) (fun w2 u0 u1 hb h0 h1 => by obtain rfl := h1; exact (times_any _ (m1 * m2) _ L _ h0.1 (n49.drew.below hb) (Nat.le_trans lab (by decide)) (Nat.le_trans lL (by decide))).mono fun e w3 h => RetS.pd h hb.size)) ?_
            refine And.intro (ob_build2b rfl (wt_none rfl) (ev_dep (j := 0) (by kernel_rfl) rfl rfl) (ev_dep (j := 5) (by kernel_rfl) rfl rfl) (fun w2 u v hb hu hv => by obtain rfl := hu; obtain ⟨A7, c7, rfl, _⟩ := id hv.1; exact ⟨.agg #[.bool (ngB U), .slice A11 (digs 4294967296 (U).natAbs).length c11, .slice A7 (digs 4294967296 ((m1 * m2) * L)).length c7], by kernel_rfl, ⟨A7, c7, rfl, hv.1, hv.2⟩⟩)) ?_
            trivial
          case done41 =>
            refine fun w8 hb8 v0 h0 v1 h1 v2 h2 v3 h3 v4 h4 v5 h5 v6 h6 b hbf => ?_
            obtain rfl := h0; obtain rfl := h1; obtain rfl := h2; obtain rfl := h4
            obtain ⟨q3, f3⟩ := h3
            obtain ⟨q5, f5⟩ := h5
            have q6 := h6; have s9_ := sB
            simp only [Act.put, List.setIfInBounds_toArray, List.set_cons_zero, List.set_cons_succ] at hbf
            subst hbf
            replace B0 := B0.below hb8
            replace k0s := k0s.below hb8
            replace k0d := k0d.below hb8
            replace k0z := k0z.below hb8
            replace k0 := k0.below hb8
            replace B1 := B1.below hb8
            replace k1s := k1s.below hb8
            replace k1d := k1d.below hb8
            replace k1z := k1z.below hb8
            replace k1 := k1.below hb8
            replace BR0 := BR0.below hb8
            replace B10 := B10.below hb8
            replace k10s := k10s.below hb8
            replace k10 := k10.below hb8
            replace B11 := B11.below hb8
            replace k11s := k11s.below hb8
            replace k11 := k11.below hb8
            replace kg := kg.below hb8
            replace n6 := n6.below hb8
            replace n8 := n8.below hb8
            replace n49 := n49.below hb8
            replace bb := bb.trans (hb8.mono bb.size)
            have hsz8 := bb.size
            have s_3 := sB
            have s_5 := sB
            obtain ⟨A9, c9, rfl, q9, f9⟩ := q6
            refine any_store (i := 7) (by kernel_rfl) rfl rfl rfl rfl rfl rfl (cells := [.bool (ngB U), .slice A11 (digs 4294967296 (U).natAbs).length c11, .slice A9 (digs 4294967296 ((m1 * m2) * L)).length c9]) rfl BR0 rfl (by kernel_rfl) (one3 rfl rfl rfl) fun w9 hg9 B9 => ?_
            have k9 := off k11s BR0 no_ints3 hg9
            have d9 := off q9 BR0 no_ints3 hg9
            have bb9 := bb.trans ((Below.refl _ _).grown hg9 bb.size (fun g hg => by injection hg with hg; omega))
            obtain ⟨C0, C1, C2, _, _, _⟩ := three B9
            refine any_done (by kernel_rfl) ?_
            go_wp2
            rw [HQ0.out]
            exact bodyPost_ret (v := .agg #[.bool (ngB U), .slice A11 (digs 4294967296 (U).natAbs).length c11, .slice A9 (digs 4294967296 ((m1 * m2) * L)).length c9]) (by simp [results, Tryz.results93, go_sem, C0, C1, C2]) rfl ⟨_, rfl, isQ_mk k9 d9 (by rw [HQN.out]) (by rw [HQN.out]) HQD.out, freshQ_mk f11_ (f9.mono s9_), bb9⟩
theorem add8_any (a0 : Value) (x : Rat) (a1 : Value) (y : Rat) (w : World) (h0 : IsQ w a0 x) (h1 : IsQ w a1 y) (hl : lenQ x 1000) (hl2 : lenQ y 1000) :
    Calls Tryz.prog 93 #[a0, a1] w (RetQ (x + y) w) :=
  add9_any a0 x a1 y w h0 h1 (hl.mono (by decide)) (hl2.mono (by decide))
set_option maxHeartbeats 1600000 in
set_option maxRecDepth 100000 in
theorem of8_any (n : Int) (w : World) (h1 : -9223372036854775808 ≤ n) (h2 : n ≤ 9223372036854775807) :
    Calls Tryz.prog 32 #[.int .i64 n] w (RetQ (n : Rat) w) := by
  obtain ⟨Q, hQ⟩ : ∃ Q, Q = (n : Rat) := ⟨_, rfl⟩
  have HQ0 : Hid ((n : Rat) = Q) := hQ.symm
  have HQN : Hid (Q.num = n) := by show _ = _; rw [hQ]; exact Rat.num_intCast n
  have HQD : Hid (Q.den = 1) := by show _ = _; rw [hQ]; exact Rat.den_intCast n
  clear hQ
  go_enter Tryz.func32, Tryz.ntmps32
  go_upto_region 1 with (fail)
  obtain ⟨wx, hwx, bb, BR0, hsz⟩ := vars1 w 44 #[.bool false, .slice none 0 0, .slice none 0 0]
  rw [hwx]
  clear hwx
  have hsz0 := bb.size
  have sB := bb.size
  refine flowp 4 [Pd.eq (.int .i64 n), pz ((Q).num) wx.heap.size, ps .u64 (digs 4294967296 (Q).den) wx.heap.size, pq (Q) wx.heap.size] (by kernel_rfl) ?ob19 ?done19
  case ob19 =>
    refine And.intro (ob_move rfl (wt_none rfl) (ev_far rfl rfl) (fun _ _ h => h)) ?_
    refine And.intro (ob_call1 rfl Tryz.func79 (by kernel_rfl) (wt_none rfl) (ev_dep (j := 0) (by kernel_rfl) rfl rfl) (fun w2 u0 hb h0 => by obtain rfl := h0; exact (zof_any n _ h1 h2).mono fun e w3 h => RetZ.pd (RetZ.to h HQN.out.symm) hb.size)) ?_
    refine And.intro (ob_call1 rfl Tryz.func80 (by kernel_rfl) (wt_none rfl) (ev_const _) (fun w2 u0 hb h0 => by obtain rfl := h0; exact (of_any 1 1 _ rfl (by omega)).mono fun e w3 h => RetS.pd (RetS.to h (congrArg (digs 4294967296) HQD.out.symm)) hb.size)) ?_
    refine And.intro (ob_build2b rfl (wt_none rfl) (ev_dep (j := 1) (by kernel_rfl) rfl rfl) (ev_dep (j := 2) (by kernel_rfl) rfl rfl) (fun w2 u v hb hu hv => by obtain ⟨u7, rfl, hu7⟩ := hu.1; obtain ⟨A7, c7, rfl, _⟩ := id hu7; obtain ⟨A8, c8, rfl, _⟩ := id hv.1; exact ⟨.agg #[.bool (ngB (Q).num), .slice A7 (digs 4294967296 (Q).num.natAbs).length c7, .slice A8 (digs 4294967296 (Q).den).length c8], by kernel_rfl, ⟨⟨_, _, rfl, hu7, hv.1⟩, freshQ_mk (hu.2 _ _ rfl) hv.2⟩⟩)) ?_
    trivial
  case done19 =>
    refine fun w1 hb1 v0 h0 v1 h1 v2 h2 v3 h3 b hbf => ?_
    obtain rfl := h0
    obtain ⟨q1, f1⟩ := h1
    obtain ⟨q2, f2⟩ := h2
    obtain ⟨q3, f3⟩ := h3
    simp only [Act.put, List.setIfInBounds_toArray, List.set_cons_zero, List.set_cons_succ] at hbf
    subst hbf
    replace BR0 := BR0.below hb1
    replace bb := bb.trans (hb1.mono bb.size)
    have hsz1 := bb.size
    have s_1 := sB
    have s_2 := sB
    have s_3 := sB
    obtain ⟨u3, t3, rfl, q3, d3⟩ := q3
    obtain ⟨A9, c9, rfl, _⟩ := id q3
    obtain ⟨D9, e9, rfl, _⟩ := id d3
    refine ops_store (i := 4) rfl rfl rfl rfl rfl rfl (cells := [.bool (ngB (Q).num), .slice A9 (digs 4294967296 (Q).num.natAbs).length c9, .slice D9 (digs 4294967296 (Q).den).length e9]) rfl BR0 rfl (by kernel_rfl) (one3 rfl rfl rfl) fun w9 hg9 B9 => ?_
    have k9 := off q3 BR0 no_ints3 hg9
    have d9 := off d3 BR0 no_ints3 hg9
    have f9 := f3.mono (show w.heap.size ≤ _ from s_3)
    have bb9 := bb.trans ((Below.refl _ _).grown hg9 bb.size (fun g hg => by injection hg with hg; omega))
    obtain ⟨C0, C1, C2, _, _, _⟩ := three B9
    refine ops_done ?_
    go_wp2
    rw [HQ0.out]
    exact bodyPost_ret (v := .agg #[.bool (ngB (Q).num), .slice A9 (digs 4294967296 (Q).num.natAbs).length c9, .slice D9 (digs 4294967296 (Q).den).length e9]) (by simp [results, Tryz.results32, go_sem, C0, C1, C2]) rfl ⟨_, rfl, ⟨_, _, rfl, k9, d9⟩, f9, bb9⟩
theorem limbs_any (v u : Value) (l m : List Nat) (b : Bool) (w : World) (h : IsS w .u64 v l) (h' : IsS w .u64 u m) (hu : Lt 18446744073709551616 l) (hu' : Lt 18446744073709551616 m) (hb_ : b = sameB l m) :
    Calls Tryz.prog 78 #[v, u] w (RetV (.bool b) w) := by
  have HB := Lib.hid hb_
  clear hb_
  obtain ⟨A, c, rfl, hc, hm, hr⟩ := h
  obtain ⟨A', c', rfl, hc', hmm, hr'⟩ := h'
  unfold maxLen at hm hmm
  by_cases hne : l.length = m.length
  · have hb1 : ((l.length : Int) != (m.length : Int)) = false := by rw [hne]; simp
    have HL := Lib.hid hne
    have hl1 : l.length ≤ m.length := by omega
    have hl2 : m.length ≤ l.length := by omega
    clear hne
    go_enter Tryz.func78, Tryz.ntmps78
    go_wp2
    go_loopw [13] (fun vi wr => ∃ k : Nat, k ≤ l.length ∧ Hid (l.take k = m.take k) ∧ Below w.heap.size w wr ∧ vi = .int .i64 (k : Int)) (fun vi _ => l.length - (intOf vi).toNat)
    case atStart => exact ⟨0, by omega, by show _ = _; simp, Below.refl _ _, rfl⟩
    case round =>
      obtain ⟨k, hk, HT, hb, rfl⟩ := hrel
      by_cases hlt : k < l.length
      · obtain ⟨ad, d, rfl, hd, hcell⟩ := (hr.below hb).at_ hlt
        obtain ⟨ad', e, rfl, he, hcell'⟩ := (hr'.below hb).at_ (i := k) (by omega)
        by_cases hde : d = e
        · subst hde
          have HN : Hid (l.take (k + 1) = m.take (k + 1)) := by show _ = _; rw [take_step hd, take_step he, HT.out]
          have hz : ((d : Int) != (d : Int)) = false := by simp
          clear hd he
          go_wp2
          go_quiet (fail)
          go_wp2
          go_roundw
          case rel => exact ⟨k + 1, by omega, HN, below_drewN hb _, by go_num⟩
          case measure => simp [intOf]; omega
        · have HN : Hid (sameB l m = false) := sameB_at hd he hde
          have hz : ((d : Int) != (e : Int)) = true := by rw [bne_iff_ne]; omega
          clear hd he hde
          go_wp2
          go_quiet (fail)
          go_wp2
          go_ret
          exact ⟨by rw [HB.out, HN.out]; rfl, below_drewN hb _⟩
      · obtain rfl : k = l.length := by omega
        have HN : Hid (sameB l m = true) := by
          have := HT.out
          rw [List.take_length, List.take_of_length_le hl2] at this
          rw [this]; exact sameB_refl m
        go_wp2
        go_ret
        exact ⟨by rw [HB.out, HN.out]; rfl, hb⟩
  · have hb1 : ((l.length : Int) != (m.length : Int)) = true := by rw [bne_iff_ne]; omega
    have HN : Hid (sameB l m = false) := sameB_of_len hne
    clear hne
    go_enter Tryz.func78, Tryz.ntmps78
    go_wp2
    go_ret
    exact ⟨by rw [HB.out, HN.out]; rfl, Below.refl _ _⟩
theorem limbs_num (v u : Value) (x y : Nat) (b : Bool) (w : World) (h : IsS w .u64 v (digs 4294967296 x)) (h' : IsS w .u64 u (digs 4294967296 y)) (hb : b = decide (x = y)) :
    Calls Tryz.prog 78 #[v, u] w (RetV (.bool b) w) :=
  limbs_any v u _ _ b w h h' (digs_lt_u x) (digs_lt_u y) (by rw [hb, sameB_digs])
set_option maxHeartbeats 1600000 in
set_option maxRecDepth 100000 in
theorem same8_any (a0 a1 : Value) (x y : Rat) (b : Bool) (w : World) (h0 : IsQ w a0 x) (h1 : IsQ w a1 y) (hb : b = decide (x = y)) :
    Calls Tryz.prog 31 #[a0, a1] w (RetV (.bool b) w) := by
  by_cases hs : ngB x.num = ngB y.num
  · by_cases hn : x.num.natAbs = y.num.natAbs
    · obtain ⟨u0, t0, rfl, s0, r0⟩ := h0
      obtain ⟨A0, c0, rfl, _⟩ := id s0
      obtain ⟨D0, e0, rfl, _⟩ := id r0
      obtain ⟨u1, t1, rfl, s1, r1⟩ := h1
      obtain ⟨A1, c1, rfl, _⟩ := id s1
      obtain ⟨D1, e1, rfl, _⟩ := id r1
      have HE : Hid ((ngB x.num == ngB y.num) = true) := by show _ = _; rw [hs]; exact beq_self_eq_true _
      have HB : Hid (b = decide (x.den = y.den)) := by show _ = _; rw [hb, decide_eq_decide, eq_parts]; exact ⟨fun e => e.2, fun e => ⟨by rw [← sg_self x.num, ← sg_self y.num, hs, hn], e⟩⟩
      clear hb hs
      have HN : Hid (true = decide (x.num.natAbs = y.num.natAbs)) := (decide_eq_true hn).symm
      clear hn
      go_enter Tryz.func31, Tryz.ntmps31
      go_upto_region 1 with (fail)
      obtain ⟨wx, hwx, bb, B0, B1, hsz⟩ := vars2 w 44 44 #[.bool (ngB (x).num), .slice A0 (digs 4294967296 (x).num.natAbs).length c0, .slice D0 (digs 4294967296 (x).den).length e0] #[.bool (ngB (y).num), .slice A1 (digs 4294967296 (y).num.natAbs).length c1, .slice D1 (digs 4294967296 (y).den).length e1]
      rw [hwx]
      clear hwx
      have k0s := s0.below bb
      have k0d := r0.below bb
      have k0z : IsZ wx (.agg #[.bool (ngB (x).num), .slice A0 (digs 4294967296 (x).num.natAbs).length c0]) (x).num := ⟨_, rfl, k0s⟩
      have k0 : IsQ wx (.agg #[.bool (ngB (x).num), .slice A0 (digs 4294967296 (x).num.natAbs).length c0, .slice D0 (digs 4294967296 (x).den).length e0]) (x) := ⟨_, _, rfl, k0s, k0d⟩
      have k1s := s1.below bb
      have k1d := r1.below bb
      have k1z : IsZ wx (.agg #[.bool (ngB (y).num), .slice A1 (digs 4294967296 (y).num.natAbs).length c1]) (y).num := ⟨_, rfl, k1s⟩
      have k1 : IsQ wx (.agg #[.bool (ngB (y).num), .slice A1 (digs 4294967296 (y).num.natAbs).length c1, .slice D1 (digs 4294967296 (y).den).length e1]) (y) := ⟨_, _, rfl, k1s, k1d⟩
      have hsz0 := bb.size
      have sB := bb.size
      refine flowp 24 [Pd.eq (.pointer (some ⟨w.heap.size, 0, none⟩)), Pd.eq (.pointer (some ⟨w.heap.size, 0, none⟩)), Pd.eq (.bool (ngB (x).num)), Pd.eq (.pointer (some ⟨w.heap.size + 1, 0, none⟩)), Pd.eq (.pointer (some ⟨w.heap.size + 1, 0, none⟩)), Pd.eq (.bool (ngB (y).num)), Pd.eq (.bool true), Pd.eq (.bool true), Pd.eq (.pointer (some ⟨w.heap.size, 0, none⟩)), Pd.eq (.pointer (some ⟨w.heap.size, 1, none⟩)), Pd.eq (.slice A0 (digs 4294967296 (x).num.natAbs).length c0), Pd.eq (.pointer (some ⟨w.heap.size + 1, 0, none⟩)), Pd.eq (.pointer (some ⟨w.heap.size + 1, 1, none⟩)), Pd.eq (.slice A1 (digs 4294967296 (y).num.natAbs).length c1), Pd.eq (.bool true), Pd.eq (.bool true), Pd.eq (.bool true), Pd.eq (.pointer (some ⟨w.heap.size, 2, none⟩)), Pd.eq (.slice D0 (digs 4294967296 (x).den).length e0), Pd.eq (.pointer (some ⟨w.heap.size + 1, 2, none⟩)), Pd.eq (.slice D1 (digs 4294967296 (y).den).length e1), Pd.eq (.bool b), Pd.eq (.bool b), Pd.eq (.bool b)] (by kernel_rfl) ?ob46 ?done46
      case ob46 =>
        refine And.intro (ob_fieldAddr rfl (wt_none rfl) (ev_far rfl rfl) (fun _ => by kernel_rfl) (fun _ => rfl)) ?_
        refine And.intro (ob_fieldAddr rfl (wt_none rfl) (ev_dep (j := 0) (by kernel_rfl) rfl rfl) (fun _ => by kernel_rfl) (fun _ => rfl)) ?_
        refine And.intro (ob_load rfl (wt_none rfl) (ev_dep (j := 1) (by kernel_rfl) rfl rfl) (fun w2 hb => run_load1 Tryz.underlying4 rfl ((B0.below hb).cell 0)) (fun _ _ => rfl)) ?_
        refine And.intro (ob_fieldAddr rfl (wt_none rfl) (ev_far rfl rfl) (fun _ => by kernel_rfl) (fun _ => rfl)) ?_
        refine And.intro (ob_fieldAddr rfl (wt_none rfl) (ev_dep (j := 3) (by kernel_rfl) rfl rfl) (fun _ => by kernel_rfl) (fun _ => rfl)) ?_
        refine And.intro (ob_load rfl (wt_none rfl) (ev_dep (j := 4) (by kernel_rfl) rfl rfl) (fun w2 hb => run_load1 Tryz.underlying4 rfl ((B1.below hb).cell 0)) (fun _ _ => rfl)) ?_
        refine And.intro (ob_bin rfl (wt_none rfl) (ev_dep (j := 2) (by kernel_rfl) rfl rfl) (ev_dep (j := 5) (by kernel_rfl) rfl rfl) (fun _ _ _ hx hy => ⟨.bool true, by rw [hx, hy]; exact (bin_eql_bool _ _ _ _ Tryz.underlying4 _).trans (by rw [HE.out]), rfl⟩)) ?_
        refine And.intro (ob_move rfl (wt_none rfl) (ev_dep (j := 6) (by kernel_rfl) rfl rfl) (fun _ _ h => h)) ?_
        refine And.intro (ob_fieldAddr rfl (wt_dep (c := true) (b := true) (g := 7) rfl (by kernel_rfl) rfl rfl rfl (by exact fun _ _ h => h)) (ev_far rfl rfl) (fun _ => by kernel_rfl) (fun _ => rfl)) ?_
        refine And.intro (ob_fieldAddr rfl (wt_dep (c := true) (b := true) (g := 7) rfl (by kernel_rfl) rfl rfl rfl (by exact fun _ _ h => h)) (ev_dep (j := 8) (by kernel_rfl) rfl rfl) (fun _ => by kernel_rfl) (fun _ => rfl)) ?_
        refine And.intro (ob_load rfl (wt_dep (c := true) (b := true) (g := 7) rfl (by kernel_rfl) rfl rfl rfl (by exact fun _ _ h => h)) (ev_dep (j := 9) (by kernel_rfl) rfl rfl) (fun w2 hb => run_load1 Tryz.underlying40 rfl ((B0.below hb).cell 1)) (fun _ _ => rfl)) ?_
        refine And.intro (ob_fieldAddr rfl (wt_dep (c := true) (b := true) (g := 7) rfl (by kernel_rfl) rfl rfl rfl (by exact fun _ _ h => h)) (ev_far rfl rfl) (fun _ => by kernel_rfl) (fun _ => rfl)) ?_
        refine And.intro (ob_fieldAddr rfl (wt_dep (c := true) (b := true) (g := 7) rfl (by kernel_rfl) rfl rfl rfl (by exact fun _ _ h => h)) (ev_dep (j := 11) (by kernel_rfl) rfl rfl) (fun _ => by kernel_rfl) (fun _ => rfl)) ?_
        refine And.intro (ob_load rfl (wt_dep (c := true) (b := true) (g := 7) rfl (by kernel_rfl) rfl rfl rfl (by exact fun _ _ h => h)) (ev_dep (j := 12) (by kernel_rfl) rfl rfl) (fun w2 hb => run_load1 Tryz.underlying40 rfl ((B1.below hb).cell 1)) (fun _ _ => rfl)) ?_
        refine And.intro (ob_call2 rfl Tryz.func78 (by kernel_rfl) (wt_dep (c := true) (b := true) (g := 7) rfl (by kernel_rfl) rfl rfl rfl (by exact fun _ _ h => h)) (ev_dep (j := 10) (by kernel_rfl) rfl rfl) (ev_dep (j := 13) (by kernel_rfl) rfl rfl) (fun w2 u0 u1 hb h0 h1 => by obtain rfl := h0; obtain rfl := h1; exact (limbs_num _ _ (x).num.natAbs (y).num.natAbs true _ (k0s.below hb) (k1s.below hb) HN.out).mono fun e w3 h => RetV.pd h)) ?_
        refine And.intro (ob_pick (b := true) rfl (wt_none rfl) (ev_dep (j := 7) (by kernel_rfl) rfl rfl) (ev_dep (j := 14) (by kernel_rfl) rfl rfl) (fun _ _ h => h)) ?_
        refine And.intro (ob_move rfl (wt_none rfl) (ev_dep (j := 15) (by kernel_rfl) rfl rfl) (fun _ _ h => h)) ?_
        refine And.intro (ob_fieldAddr rfl (wt_dep (c := true) (b := true) (g := 16) rfl (by kernel_rfl) rfl rfl rfl (by exact fun _ _ h => h)) (ev_far rfl rfl) (fun _ => by kernel_rfl) (fun _ => rfl)) ?_
        refine And.intro (ob_load rfl (wt_dep (c := true) (b := true) (g := 16) rfl (by kernel_rfl) rfl rfl rfl (by exact fun _ _ h => h)) (ev_dep (j := 17) (by kernel_rfl) rfl rfl) (fun w2 hb => run_load1 Tryz.underlying40 rfl ((B0.below hb).cell 2)) (fun _ _ => rfl)) ?_
        refine And.intro (ob_fieldAddr rfl (wt_dep (c := true) (b := true) (g := 16) rfl (by kernel_rfl) rfl rfl rfl (by exact fun _ _ h => h)) (ev_far rfl rfl) (fun _ => by kernel_rfl) (fun _ => rfl)) ?_
        refine And.intro (ob_load rfl (wt_dep (c := true) (b := true) (g := 16) rfl (by kernel_rfl) rfl rfl rfl (by exact fun _ _ h => h)) (ev_dep (j := 19) (by kernel_rfl) rfl rfl) (fun w2 hb => run_load1 Tryz.underlying40 rfl ((B1.below hb).cell 2)) (fun _ _ => rfl)) ?_
        refine And.intro (ob_call2 rfl Tryz.func78 (by kernel_rfl) (wt_dep (c := true) (b := true) (g := 16) rfl (by kernel_rfl) rfl rfl rfl (by exact fun _ _ h => h)) (ev_dep (j := 18) (by kernel_rfl) rfl rfl) (ev_dep (j := 20) (by kernel_rfl) rfl rfl) (fun w2 u0 u1 hb h0 h1 => by obtain rfl := h0; obtain rfl := h1; exact (limbs_num _ _ (x).den (y).den b _ (k0d.below hb) (k1d.below hb) HB.out).mono fun e w3 h => RetV.pd h)) ?_
        refine And.intro (ob_pick (b := true) rfl (wt_none rfl) (ev_dep (j := 16) (by kernel_rfl) rfl rfl) (ev_dep (j := 21) (by kernel_rfl) rfl rfl) (fun _ _ h => h)) ?_
        refine And.intro (ob_assign rfl (wt_none rfl) (ev_dep (j := 22) (by kernel_rfl) rfl rfl) (fun _ _ h => h)) ?_
        trivial
      case done46 =>
        refine fun w1 hb1 v0 h0 v1 h1 v2 h2 v3 h3 v4 h4 v5 h5 v6 h6 v7 h7 v8 h8 v9 h9 v10 h10 v11 h11 v12 h12 v13 h13 v14 h14 v15 h15 v16 h16 v17 h17 v18 h18 v19 h19 v20 h20 v21 h21 v22 h22 v23 h23 b hbf => ?_
        obtain rfl := h0; obtain rfl := h1; obtain rfl := h2; obtain rfl := h3; obtain rfl := h4; obtain rfl := h5; obtain rfl := h6; obtain rfl := h7; obtain rfl := h8; obtain rfl := h9; obtain rfl := h10; obtain rfl := h11; obtain rfl := h12; obtain rfl := h13; obtain rfl := h14; obtain rfl := h15; obtain rfl := h16; obtain rfl := h17; obtain rfl := h18; obtain rfl := h19; obtain rfl := h20; obtain rfl := h21; obtain rfl := h22; obtain rfl := h23
        simp only [Act.put, List.setIfInBounds_toArray, List.set_cons_zero, List.set_cons_succ] at hbf
        subst hbf
        replace B0 := B0.below hb1
        replace k0s := k0s.below hb1
        replace k0d := k0d.below hb1
        replace k0z := k0z.below hb1
        replace k0 := k0.below hb1
        replace B1 := B1.below hb1
        replace k1s := k1s.below hb1
        replace k1d := k1d.below hb1
        replace k1z := k1z.below hb1
        replace k1 := k1.below hb1
        replace bb := bb.trans (hb1.mono bb.size)
        have hsz1 := bb.size
        refine ops_done ?_
        go_wp2
        go_ret
        exact ⟨rfl, bb⟩
    · obtain ⟨u0, t0, rfl, s0, r0⟩ := h0
      obtain ⟨A0, c0, rfl, _⟩ := id s0
      obtain ⟨D0, e0, rfl, _⟩ := id r0
      obtain ⟨u1, t1, rfl, s1, r1⟩ := h1
      obtain ⟨A1, c1, rfl, _⟩ := id s1
      obtain ⟨D1, e1, rfl, _⟩ := id r1
      have HE : Hid ((ngB x.num == ngB y.num) = true) := by show _ = _; rw [hs]; exact beq_self_eq_true _
      obtain rfl : b = false := by rw [hb, decide_eq_false_iff_not]; exact fun e => hn (by rw [e])
      clear hb hs
      have HN : Hid (false = decide (x.num.natAbs = y.num.natAbs)) := (decide_eq_false hn).symm
      clear hn
      go_enter Tryz.func31, Tryz.ntmps31
      go_upto_region 1 with (fail)
      obtain ⟨wx, hwx, bb, B0, B1, hsz⟩ := vars2 w 44 44 #[.bool (ngB (x).num), .slice A0 (digs 4294967296 (x).num.natAbs).length c0, .slice D0 (digs 4294967296 (x).den).length e0] #[.bool (ngB (y).num), .slice A1 (digs 4294967296 (y).num.natAbs).length c1, .slice D1 (digs 4294967296 (y).den).length e1]
      rw [hwx]
      clear hwx
      have k0s := s0.below bb
      have k0d := r0.below bb
      have k0z : IsZ wx (.agg #[.bool (ngB (x).num), .slice A0 (digs 4294967296 (x).num.natAbs).length c0]) (x).num := ⟨_, rfl, k0s⟩
      have k0 : IsQ wx (.agg #[.bool (ngB (x).num), .slice A0 (digs 4294967296 (x).num.natAbs).length c0, .slice D0 (digs 4294967296 (x).den).length e0]) (x) := ⟨_, _, rfl, k0s, k0d⟩
      have k1s := s1.below bb
      have k1d := r1.below bb
      have k1z : IsZ wx (.agg #[.bool (ngB (y).num), .slice A1 (digs 4294967296 (y).num.natAbs).length c1]) (y).num := ⟨_, rfl, k1s⟩
      have k1 : IsQ wx (.agg #[.bool (ngB (y).num), .slice A1 (digs 4294967296 (y).num.natAbs).length c1, .slice D1 (digs 4294967296 (y).den).length e1]) (y) := ⟨_, _, rfl, k1s, k1d⟩
      have hsz0 := bb.size
      have sB := bb.size
      refine flowp 24 [Pd.eq (.pointer (some ⟨w.heap.size, 0, none⟩)), Pd.eq (.pointer (some ⟨w.heap.size, 0, none⟩)), Pd.eq (.bool (ngB (x).num)), Pd.eq (.pointer (some ⟨w.heap.size + 1, 0, none⟩)), Pd.eq (.pointer (some ⟨w.heap.size + 1, 0, none⟩)), Pd.eq (.bool (ngB (y).num)), Pd.eq (.bool true), Pd.eq (.bool true), Pd.eq (.pointer (some ⟨w.heap.size, 0, none⟩)), Pd.eq (.pointer (some ⟨w.heap.size, 1, none⟩)), Pd.eq (.slice A0 (digs 4294967296 (x).num.natAbs).length c0), Pd.eq (.pointer (some ⟨w.heap.size + 1, 0, none⟩)), Pd.eq (.pointer (some ⟨w.heap.size + 1, 1, none⟩)), Pd.eq (.slice A1 (digs 4294967296 (y).num.natAbs).length c1), Pd.eq (.bool false), Pd.eq (.bool false), Pd.eq (.bool false), Pd.any, Pd.any, Pd.any, Pd.any, Pd.any, Pd.eq (.bool false), Pd.eq (.bool false)] (by kernel_rfl) ?ob45 ?done45
      case ob45 =>
        refine And.intro (ob_fieldAddr rfl (wt_none rfl) (ev_far rfl rfl) (fun _ => by kernel_rfl) (fun _ => rfl)) ?_
        refine And.intro (ob_fieldAddr rfl (wt_none rfl) (ev_dep (j := 0) (by kernel_rfl) rfl rfl) (fun _ => by kernel_rfl) (fun _ => rfl)) ?_
        refine And.intro (ob_load rfl (wt_none rfl) (ev_dep (j := 1) (by kernel_rfl) rfl rfl) (fun w2 hb => run_load1 Tryz.underlying4 rfl ((B0.below hb).cell 0)) (fun _ _ => rfl)) ?_
        refine And.intro (ob_fieldAddr rfl (wt_none rfl) (ev_far rfl rfl) (fun _ => by kernel_rfl) (fun _ => rfl)) ?_
        refine And.intro (ob_fieldAddr rfl (wt_none rfl) (ev_dep (j := 3) (by kernel_rfl) rfl rfl) (fun _ => by kernel_rfl) (fun _ => rfl)) ?_
        refine And.intro (ob_load rfl (wt_none rfl) (ev_dep (j := 4) (by kernel_rfl) rfl rfl) (fun w2 hb => run_load1 Tryz.underlying4 rfl ((B1.below hb).cell 0)) (fun _ _ => rfl)) ?_
        refine And.intro (ob_bin rfl (wt_none rfl) (ev_dep (j := 2) (by kernel_rfl) rfl rfl) (ev_dep (j := 5) (by kernel_rfl) rfl rfl) (fun _ _ _ hx hy => ⟨.bool true, by rw [hx, hy]; exact (bin_eql_bool _ _ _ _ Tryz.underlying4 _).trans (by rw [HE.out]), rfl⟩)) ?_
        refine And.intro (ob_move rfl (wt_none rfl) (ev_dep (j := 6) (by kernel_rfl) rfl rfl) (fun _ _ h => h)) ?_
        refine And.intro (ob_fieldAddr rfl (wt_dep (c := true) (b := true) (g := 7) rfl (by kernel_rfl) rfl rfl rfl (by exact fun _ _ h => h)) (ev_far rfl rfl) (fun _ => by kernel_rfl) (fun _ => rfl)) ?_
        refine And.intro (ob_fieldAddr rfl (wt_dep (c := true) (b := true) (g := 7) rfl (by kernel_rfl) rfl rfl rfl (by exact fun _ _ h => h)) (ev_dep (j := 8) (by kernel_rfl) rfl rfl) (fun _ => by kernel_rfl) (fun _ => rfl)) ?_
        refine And.intro (ob_load rfl (wt_dep (c := true) (b := true) (g := 7) rfl (by kernel_rfl) rfl rfl rfl (by exact fun _ _ h => h)) (ev_dep (j := 9) (by kernel_rfl) rfl rfl) (fun w2 hb => run_load1 Tryz.underlying40 rfl ((B0.below hb).cell 1)) (fun _ _ => rfl)) ?_
        refine And.intro (ob_fieldAddr rfl (wt_dep (c := true) (b := true) (g := 7) rfl (by kernel_rfl) rfl rfl rfl (by exact fun _ _ h => h)) (ev_far rfl rfl) (fun _ => by kernel_rfl) (fun _ => rfl)) ?_
        refine And.intro (ob_fieldAddr rfl (wt_dep (c := true) (b := true) (g := 7) rfl (by kernel_rfl) rfl rfl rfl (by exact fun _ _ h => h)) (ev_dep (j := 11) (by kernel_rfl) rfl rfl) (fun _ => by kernel_rfl) (fun _ => rfl)) ?_
        refine And.intro (ob_load rfl (wt_dep (c := true) (b := true) (g := 7) rfl (by kernel_rfl) rfl rfl rfl (by exact fun _ _ h => h)) (ev_dep (j := 12) (by kernel_rfl) rfl rfl) (fun w2 hb => run_load1 Tryz.underlying40 rfl ((B1.below hb).cell 1)) (fun _ _ => rfl)) ?_
        refine And.intro (ob_call2 rfl Tryz.func78 (by kernel_rfl) (wt_dep (c := true) (b := true) (g := 7) rfl (by kernel_rfl) rfl rfl rfl (by exact fun _ _ h => h)) (ev_dep (j := 10) (by kernel_rfl) rfl rfl) (ev_dep (j := 13) (by kernel_rfl) rfl rfl) (fun w2 u0 u1 hb h0 h1 => by obtain rfl := h0; obtain rfl := h1; exact (limbs_num _ _ (x).num.natAbs (y).num.natAbs false _ (k0s.below hb) (k1s.below hb) HN.out).mono fun e w3 h => RetV.pd h)) ?_
        refine And.intro (ob_pick (b := true) rfl (wt_none rfl) (ev_dep (j := 7) (by kernel_rfl) rfl rfl) (ev_dep (j := 14) (by kernel_rfl) rfl rfl) (fun _ _ h => h)) ?_
        refine And.intro (ob_move rfl (wt_none rfl) (ev_dep (j := 15) (by kernel_rfl) rfl rfl) (fun _ _ h => h)) ?_
        refine And.intro (ob_not (wt_dep (c := false) (b := true) (g := 16) rfl (by kernel_rfl) rfl rfl rfl (by exact fun _ _ h => h)) (fun _ => trivial) rfl) ?_
        refine And.intro (ob_not (wt_dep (c := false) (b := true) (g := 16) rfl (by kernel_rfl) rfl rfl rfl (by exact fun _ _ h => h)) (fun _ => trivial) rfl) ?_
        refine And.intro (ob_not (wt_dep (c := false) (b := true) (g := 16) rfl (by kernel_rfl) rfl rfl rfl (by exact fun _ _ h => h)) (fun _ => trivial) rfl) ?_
        refine And.intro (ob_not (wt_dep (c := false) (b := true) (g := 16) rfl (by kernel_rfl) rfl rfl rfl (by exact fun _ _ h => h)) (fun _ => trivial) rfl) ?_
        refine And.intro (ob_not (wt_dep (c := false) (b := true) (g := 16) rfl (by kernel_rfl) rfl rfl rfl (by exact fun _ _ h => h)) (fun _ => trivial) rfl) ?_
        refine And.intro (ob_pick (b := false) rfl (wt_none rfl) (ev_dep (j := 16) (by kernel_rfl) rfl rfl) (ev_const _) (fun _ _ h => h)) ?_
        refine And.intro (ob_assign rfl (wt_none rfl) (ev_dep (j := 22) (by kernel_rfl) rfl rfl) (fun _ _ h => h)) ?_
        trivial
      case done45 =>
        refine fun w1 hb1 v0 h0 v1 h1 v2 h2 v3 h3 v4 h4 v5 h5 v6 h6 v7 h7 v8 h8 v9 h9 v10 h10 v11 h11 v12 h12 v13 h13 v14 h14 v15 h15 v16 h16 v17 h17 v18 h18 v19 h19 v20 h20 v21 h21 v22 h22 v23 h23 b hbf => ?_
        obtain rfl := h0; obtain rfl := h1; obtain rfl := h2; obtain rfl := h3; obtain rfl := h4; obtain rfl := h5; obtain rfl := h6; obtain rfl := h7; obtain rfl := h8; obtain rfl := h9; obtain rfl := h10; obtain rfl := h11; obtain rfl := h12; obtain rfl := h13; obtain rfl := h14; obtain rfl := h15; obtain rfl := h16; obtain rfl := h22; obtain rfl := h23
        clear h17
        clear h18
        clear h19
        clear h20
        clear h21
        simp only [Act.put, List.setIfInBounds_toArray, List.set_cons_zero, List.set_cons_succ] at hbf
        subst hbf
        replace B0 := B0.below hb1
        replace k0s := k0s.below hb1
        replace k0d := k0d.below hb1
        replace k0z := k0z.below hb1
        replace k0 := k0.below hb1
        replace B1 := B1.below hb1
        replace k1s := k1s.below hb1
        replace k1d := k1d.below hb1
        replace k1z := k1z.below hb1
        replace k1 := k1.below hb1
        replace bb := bb.trans (hb1.mono bb.size)
        have hsz1 := bb.size
        refine ops_done ?_
        go_wp2
        go_ret
        exact ⟨rfl, bb⟩
  · obtain ⟨u0, t0, rfl, s0, r0⟩ := h0
    obtain ⟨A0, c0, rfl, _⟩ := id s0
    obtain ⟨D0, e0, rfl, _⟩ := id r0
    obtain ⟨u1, t1, rfl, s1, r1⟩ := h1
    obtain ⟨A1, c1, rfl, _⟩ := id s1
    obtain ⟨D1, e1, rfl, _⟩ := id r1
    obtain rfl : b = false := by rw [hb, decide_eq_false_iff_not]; exact fun e => hs (by rw [e])
    clear hb
    have HE : Hid ((ngB x.num == ngB y.num) = false) := by show _ = _; rw [beq_eq_false_iff_ne]; exact hs
    clear hs
    go_enter Tryz.func31, Tryz.ntmps31
    go_upto_region 1 with (fail)
    obtain ⟨wx, hwx, bb, B0, B1, hsz⟩ := vars2 w 44 44 #[.bool (ngB (x).num), .slice A0 (digs 4294967296 (x).num.natAbs).length c0, .slice D0 (digs 4294967296 (x).den).length e0] #[.bool (ngB (y).num), .slice A1 (digs 4294967296 (y).num.natAbs).length c1, .slice D1 (digs 4294967296 (y).den).length e1]
    rw [hwx]
    clear hwx
    have k0s := s0.below bb
    have k0d := r0.below bb
    have k0z : IsZ wx (.agg #[.bool (ngB (x).num), .slice A0 (digs 4294967296 (x).num.natAbs).length c0]) (x).num := ⟨_, rfl, k0s⟩
    have k0 : IsQ wx (.agg #[.bool (ngB (x).num), .slice A0 (digs 4294967296 (x).num.natAbs).length c0, .slice D0 (digs 4294967296 (x).den).length e0]) (x) := ⟨_, _, rfl, k0s, k0d⟩
    have k1s := s1.below bb
    have k1d := r1.below bb
    have k1z : IsZ wx (.agg #[.bool (ngB (y).num), .slice A1 (digs 4294967296 (y).num.natAbs).length c1]) (y).num := ⟨_, rfl, k1s⟩
    have k1 : IsQ wx (.agg #[.bool (ngB (y).num), .slice A1 (digs 4294967296 (y).num.natAbs).length c1, .slice D1 (digs 4294967296 (y).den).length e1]) (y) := ⟨_, _, rfl, k1s, k1d⟩
    have hsz0 := bb.size
    have sB := bb.size
    refine flowp 24 [Pd.eq (.pointer (some ⟨w.heap.size, 0, none⟩)), Pd.eq (.pointer (some ⟨w.heap.size, 0, none⟩)), Pd.eq (.bool (ngB (x).num)), Pd.eq (.pointer (some ⟨w.heap.size + 1, 0, none⟩)), Pd.eq (.pointer (some ⟨w.heap.size + 1, 0, none⟩)), Pd.eq (.bool (ngB (y).num)), Pd.eq (.bool false), Pd.eq (.bool false), Pd.any, Pd.any, Pd.any, Pd.any, Pd.any, Pd.any, Pd.any, Pd.eq (.bool false), Pd.eq (.bool false), Pd.any, Pd.any, Pd.any, Pd.any, Pd.any, Pd.eq (.bool false), Pd.eq (.bool false)] (by kernel_rfl) ?ob44 ?done44
    case ob44 =>
      refine And.intro (ob_fieldAddr rfl (wt_none rfl) (ev_far rfl rfl) (fun _ => by kernel_rfl) (fun _ => rfl)) ?_
      refine And.intro (ob_fieldAddr rfl (wt_none rfl) (ev_dep (j := 0) (by kernel_rfl) rfl rfl) (fun _ => by kernel_rfl) (fun _ => rfl)) ?_
      refine And.intro (ob_load rfl (wt_none rfl) (ev_dep (j := 1) (by kernel_rfl) rfl rfl) (fun w2 hb => run_load1 Tryz.underlying4 rfl ((B0.below hb).cell 0)) (fun _ _ => rfl)) ?_
      refine And.intro (ob_fieldAddr rfl (wt_none rfl) (ev_far rfl rfl) (fun _ => by kernel_rfl) (fun _ => rfl)) ?_
      refine And.intro (ob_fieldAddr rfl (wt_none rfl) (ev_dep (j := 3) (by kernel_rfl) rfl rfl) (fun _ => by kernel_rfl) (fun _ => rfl)) ?_
      refine And.intro (ob_load rfl (wt_none rfl) (ev_dep (j := 4) (by kernel_rfl) rfl rfl) (fun w2 hb => run_load1 Tryz.underlying4 rfl ((B1.below hb).cell 0)) (fun _ _ => rfl)) ?_
      refine And.intro (ob_bin rfl (wt_none rfl) (ev_dep (j := 2) (by kernel_rfl) rfl rfl) (ev_dep (j := 5) (by kernel_rfl) rfl rfl) (fun _ _ _ hx hy => ⟨.bool false, by rw [hx, hy]; exact (bin_eql_bool _ _ _ _ Tryz.underlying4 _).trans (by rw [HE.out]), rfl⟩)) ?_
      refine And.intro (ob_move rfl (wt_none rfl) (ev_dep (j := 6) (by kernel_rfl) rfl rfl) (fun _ _ h => h)) ?_
      refine And.intro (ob_not (wt_dep (c := false) (b := true) (g := 7) rfl (by kernel_rfl) rfl rfl rfl (by exact fun _ _ h => h)) (fun _ => trivial) rfl) ?_
      refine And.intro (ob_not (wt_dep (c := false) (b := true) (g := 7) rfl (by kernel_rfl) rfl rfl rfl (by exact fun _ _ h => h)) (fun _ => trivial) rfl) ?_
      refine And.intro (ob_not (wt_dep (c := false) (b := true) (g := 7) rfl (by kernel_rfl) rfl rfl rfl (by exact fun _ _ h => h)) (fun _ => trivial) rfl) ?_
      refine And.intro (ob_not (wt_dep (c := false) (b := true) (g := 7) rfl (by kernel_rfl) rfl rfl rfl (by exact fun _ _ h => h)) (fun _ => trivial) rfl) ?_
      refine And.intro (ob_not (wt_dep (c := false) (b := true) (g := 7) rfl (by kernel_rfl) rfl rfl rfl (by exact fun _ _ h => h)) (fun _ => trivial) rfl) ?_
      refine And.intro (ob_not (wt_dep (c := false) (b := true) (g := 7) rfl (by kernel_rfl) rfl rfl rfl (by exact fun _ _ h => h)) (fun _ => trivial) rfl) ?_
      refine And.intro (ob_not (wt_dep (c := false) (b := true) (g := 7) rfl (by kernel_rfl) rfl rfl rfl (by exact fun _ _ h => h)) (fun _ => trivial) rfl) ?_
      refine And.intro (ob_pick (b := false) rfl (wt_none rfl) (ev_dep (j := 7) (by kernel_rfl) rfl rfl) (ev_const _) (fun _ _ h => h)) ?_
      refine And.intro (ob_move rfl (wt_none rfl) (ev_dep (j := 15) (by kernel_rfl) rfl rfl) (fun _ _ h => h)) ?_
      refine And.intro (ob_not (wt_dep (c := false) (b := true) (g := 16) rfl (by kernel_rfl) rfl rfl rfl (by exact fun _ _ h => h)) (fun _ => trivial) rfl) ?_
      refine And.intro (ob_not (wt_dep (c := false) (b := true) (g := 16) rfl (by kernel_rfl) rfl rfl rfl (by exact fun _ _ h => h)) (fun _ => trivial) rfl) ?_
      refine And.intro (ob_not (wt_dep (c := false) (b := true) (g := 16) rfl (by kernel_rfl) rfl rfl rfl (by exact fun _ _ h => h)) (fun _ => trivial) rfl) ?_
      refine And.intro (ob_not (wt_dep (c := false) (b := true) (g := 16) rfl (by kernel_rfl) rfl rfl rfl (by exact fun _ _ h => h)) (fun _ => trivial) rfl) ?_
      refine And.intro (ob_not (wt_dep (c := false) (b := true) (g := 16) rfl (by kernel_rfl) rfl rfl rfl (by exact fun _ _ h => h)) (fun _ => trivial) rfl) ?_
      refine And.intro (ob_pick (b := false) rfl (wt_none rfl) (ev_dep (j := 16) (by kernel_rfl) rfl rfl) (ev_const _) (fun _ _ h => h)) ?_
      refine And.intro (ob_assign rfl (wt_none rfl) (ev_dep (j := 22) (by kernel_rfl) rfl rfl) (fun _ _ h => h)) ?_
      trivial
    case done44 =>
      refine fun w1 hb1 v0 h0 v1 h1 v2 h2 v3 h3 v4 h4 v5 h5 v6 h6 v7 h7 v8 h8 v9 h9 v10 h10 v11 h11 v12 h12 v13 h13 v14 h14 v15 h15 v16 h16 v17 h17 v18 h18 v19 h19 v20 h20 v21 h21 v22 h22 v23 h23 b hbf => ?_
      obtain rfl := h0; obtain rfl := h1; obtain rfl := h2; obtain rfl := h3; obtain rfl := h4; obtain rfl := h5; obtain rfl := h6; obtain rfl := h7; obtain rfl := h15; obtain rfl := h16; obtain rfl := h22; obtain rfl := h23
      clear h8
      clear h9
      clear h10
      clear h11
      clear h12
      clear h13
      clear h14
      clear h17
      clear h18
      clear h19
      clear h20
      clear h21
      simp only [Act.put, List.setIfInBounds_toArray, List.set_cons_zero, List.set_cons_succ] at hbf
      subst hbf
      replace B0 := B0.below hb1
      replace k0s := k0s.below hb1
      replace k0d := k0d.below hb1
      replace k0z := k0z.below hb1
      replace k0 := k0.below hb1
      replace B1 := B1.below hb1
      replace k1s := k1s.below hb1
      replace k1d := k1d.below hb1
      replace k1z := k1z.below hb1
      replace k1 := k1.below hb1
      replace bb := bb.trans (hb1.mono bb.size)
      have hsz1 := bb.size
      refine ops_done ?_
      go_wp2
      go_ret
      exact ⟨rfl, bb⟩
set_option maxHeartbeats 1600000 in
set_option maxRecDepth 100000 in
theorem qadd_any (a0 : Value) (x : Rat) (a1 : Value) (y : Rat) (w : World) (h0 : IsP w a0 x) (h1 : IsP w a1 y) (hl : lenQ x 5000) (hl2 : lenQ y 5000) :
    Calls Tryz.prog 62 #[a0, a1] w (RetPF (x + y) w) := by
  obtain ⟨u0, t0, rfl, s0, r0⟩ := h0
  obtain ⟨A0, c0, rfl, _⟩ := id s0
  obtain ⟨D0, e0, rfl, _⟩ := id r0
  obtain ⟨u1, t1, rfl, s1, r1⟩ := h1
  obtain ⟨A1, c1, rfl, _⟩ := id s1
  obtain ⟨D1, e1, rfl, _⟩ := id r1
  have HA : Hid (mkRat (x.num * y.den + y.num * x.den) (x.den * y.den) = x + y) := (Rat.add_def' x y).symm
  have lx1 := hl.1
  have lx2 : lenZ ((x.den : Nat) : Int) ≤ 5000 := by rw [lenD]; exact hl.2
  have ly1 := hl2.1
  have ly2 : lenZ ((y.den : Nat) : Int) ≤ 5000 := by rw [lenD]; exact hl2.2
  have lp : lenZ (x.num * ((y.den : Nat) : Int)) ≤ 10000 := lenZ_mul_le lx1 ly2
  have lq : lenZ (y.num * ((x.den : Nat) : Int)) ≤ 10000 := lenZ_mul_le ly1 lx2
  have HLZ : Hid (lenZ (x.num * ((y.den : Nat) : Int) + y.num * ((x.den : Nat) : Int)) ≤ 30000) := Nat.le_trans (lenZ_add_le lp lq) (by decide)
  have HLD : Hid ((digs 4294967296 (x.den * y.den)).length ≤ 30000) := by show _ ≤ _; have := mul_len x.den y.den; have h1 := hl.2; have h2 := hl2.2; omega
  go_enter Tryz.func62, Tryz.ntmps62
  go_upto_region 1 with (fail)
  obtain ⟨wx, hwx, bb, B0, B1, BR0, hsz⟩ := vars3 w 55 55 55 #[.bool (ngB (x).num), .slice A0 (digs 10000 (x).num.natAbs).length c0, .slice D0 (digs 10000 (x).den).length e0] #[.bool (ngB (y).num), .slice A1 (digs 10000 (y).num.natAbs).length c1, .slice D1 (digs 10000 (y).den).length e1] #[.bool false, .slice none 0 0, .slice none 0 0]
  rw [hwx]
  clear hwx
  have k0s := s0.below bb
  have k0d := r0.below bb
  have k0z : IsR wx (.agg #[.bool (ngB (x).num), .slice A0 (digs 10000 (x).num.natAbs).length c0]) (x).num := ⟨_, rfl, k0s⟩
  have k0 : IsP wx (.agg #[.bool (ngB (x).num), .slice A0 (digs 10000 (x).num.natAbs).length c0, .slice D0 (digs 10000 (x).den).length e0]) (x) := ⟨_, _, rfl, k0s, k0d⟩
  have k1s := s1.below bb
  have k1d := r1.below bb
  have k1z : IsR wx (.agg #[.bool (ngB (y).num), .slice A1 (digs 10000 (y).num.natAbs).length c1]) (y).num := ⟨_, rfl, k1s⟩
  have k1 : IsP wx (.agg #[.bool (ngB (y).num), .slice A1 (digs 10000 (y).num.natAbs).length c1, .slice D1 (digs 10000 (y).den).length e1]) (y) := ⟨_, _, rfl, k1s, k1d⟩
  have hsz0 := bb.size
  have sB := bb.size
  have lt10_2 := Blk.lt B0
  have lt10_3 := Blk.lt B1
  have lt10_4 := Blk.lt BR0
  refine flow 14 [Pd.eq (.pointer (some ⟨w.heap.size, 0, none⟩)), Pd.eq (.agg #[.bool (ngB (x).num), .slice A0 (digs 10000 (x).num.natAbs).length c0]), Pd.eq (.pointer (some ⟨w.heap.size + 1, 2, none⟩)), Pd.eq (.slice D1 (digs 10000 (y).den).length e1), pr (((y.den : Nat) : Int)), pr ((x.num * ((y.den : Nat) : Int))), Pd.eq (.pointer (some ⟨w.heap.size + 1, 0, none⟩)), Pd.eq (.agg #[.bool (ngB (y).num), .slice A1 (digs 10000 (y).num.natAbs).length c1]), Pd.eq (.pointer (some ⟨w.heap.size, 2, none⟩)), Pd.eq (.slice D0 (digs 10000 (x).den).length e0), pr (((x.den : Nat) : Int)), pr ((y.num * ((x.den : Nat) : Int))), pn 53 #[.bool false, .slice none 0 0] wx.heap.size, pn 53 #[.bool false, .slice none 0 0] wx.heap.size] (by kernel_rfl) (by kernel_rfl) ?ob1 ?done1
  case ob1 =>
    refine And.intro (ob_fieldAddr rfl (wt_none rfl) (ev_far rfl rfl) (fun _ => by kernel_rfl) (fun _ => rfl)) ?_
    refine And.intro (ob_load rfl (wt_none rfl) (ev_dep (j := 0) (by kernel_rfl) rfl rfl) (fun w2 hb => run_loadPart Tryz.underlying53 rfl (by kernel_rfl) (B0.drew.below hb) rfl) (fun _ _ => rfl)) ?_
    refine And.intro (ob_fieldAddr rfl (wt_none rfl) (ev_far rfl rfl) (fun _ => by kernel_rfl) (fun _ => rfl)) ?_
    refine And.intro (ob_load rfl (wt_none rfl) (ev_dep (j := 2) (by kernel_rfl) rfl rfl) (fun w2 hb => run_load1 Tryz.underlying51 rfl ((B1.drew.below hb).cell 2)) (fun _ _ => rfl)) ?_
    refine And.intro (ob_build1b rfl (wt_none rfl) (ev_dep (j := 3) (by kernel_rfl) rfl rfl) (fun w2 u hb hu => by obtain rfl := hu; exact ⟨.agg #[.bool false, .slice D1 (digs 10000 (y).den).length e1], by kernel_rfl, isR_mk (k1d.drew.below hb) (Int.natAbs_natCast _) (ngB_of_pos (by omega)).symm⟩)) ?_
    refine And.intro (ob_call2 rfl Tryz.func111 (by kernel_rfl) (wt_none rfl) (ev_dep (j := 1) (by kernel_rfl) rfl rfl) (ev_dep (j := 4) (by kernel_rfl) rfl rfl) (fun w2 u0 u1 hb h0 h1 => by obtain rfl := h0; exact (rmul_any _ _ _ _ _ (k0z.drew.below hb) h1 (Nat.le_trans lx1 (by decide)) (Nat.le_trans ly2 (by decide))).mono fun e w3 h => RetR.pd h)) ?_
    refine And.intro (ob_fieldAddr rfl (wt_none rfl) (ev_far rfl rfl) (fun _ => by kernel_rfl) (fun _ => rfl)) ?_
    refine And.intro (ob_load rfl (wt_none rfl) (ev_dep (j := 6) (by kernel_rfl) rfl rfl) (fun w2 hb => run_loadPart Tryz.underlying53 rfl (by kernel_rfl) (B1.drew.below hb) rfl) (fun _ _ => rfl)) ?_
    refine And.intro (ob_fieldAddr rfl (wt_none rfl) (ev_far rfl rfl) (fun _ => by kernel_rfl) (fun _ => rfl)) ?_
    refine And.intro (ob_load rfl (wt_none rfl) (ev_dep (j := 8) (by kernel_rfl) rfl rfl) (fun w2 hb => run_load1 Tryz.underlying51 rfl ((B0.drew.below hb).cell 2)) (fun _ _ => rfl)) ?_
    refine And.intro (ob_build1b rfl (wt_none rfl) (ev_dep (j := 9) (by kernel_rfl) rfl rfl) (fun w2 u hb hu => by obtain rfl := hu; exact ⟨.agg #[.bool false, .slice D0 (digs 10000 (x).den).length e0], by kernel_rfl, isR_mk (k0d.drew.below hb) (Int.natAbs_natCast _) (ngB_of_pos (by omega)).symm⟩)) ?_
    refine And.intro (ob_call2 rfl Tryz.func111 (by kernel_rfl) (wt_none rfl) (ev_dep (j := 7) (by kernel_rfl) rfl rfl) (ev_dep (j := 10) (by kernel_rfl) rfl rfl) (fun w2 u0 u1 hb h0 h1 => by obtain rfl := h0; exact (rmul_any _ _ _ _ _ (k1z.drew.below hb) h1 (Nat.le_trans ly1 (by decide)) (Nat.le_trans lx2 (by decide))).mono fun e w3 h => RetR.pd h)) ?_
    refine And.intro (ob_alloc (z := .agg #[.bool false, .slice none 0 0]) rfl rfl (fun _ => by kernel_rfl) (fun _ _ hB h => ⟨_, rfl, hB, h⟩)) ?_
    refine And.intro (ob_alloc (z := .agg #[.bool false, .slice none 0 0]) rfl rfl (fun _ => by kernel_rfl) (fun _ _ hB h => ⟨_, rfl, hB, h⟩)) ?_
    trivial
  case done1 =>
    refine fun w11 hb11 v0 h0 v1 h1 v2 h2 v3 h3 v4 h4 v5 h5 v6 h6 v7 h7 v8 h8 v9 h9 v10 h10 v11 h11 v12 h12 d12 v13 h13 d13 b hbf => ?_
    obtain rfl := h0; obtain rfl := h1; obtain rfl := h2; obtain rfl := h3; obtain rfl := h6; obtain rfl := h7; obtain rfl := h8; obtain rfl := h9
    have q4 := h4
    have q5 := h5
    have q10 := h10
    have q11 := h11
    obtain ⟨g1_12, rfl, hg12, B12⟩ := h12
    obtain ⟨g1_13, rfl, hg13, B13⟩ := h13
    simp only [Act.put, List.setIfInBounds_toArray, List.set_cons_zero, List.set_cons_succ] at hbf
    subst hbf
    replace B0 := B0.below hb11
    replace k0s := k0s.below hb11
    replace k0d := k0d.below hb11
    replace k0z := k0z.below hb11
    replace k0 := k0.below hb11
    replace B1 := B1.below hb11
    replace k1s := k1s.below hb11
    replace k1d := k1d.below hb11
    replace k1z := k1z.below hb11
    replace k1 := k1.below hb11
    replace BR0 := BR0.below hb11
    replace bb := bb.trans (hb11.mono bb.size)
    have hsz11 := bb.size
    have BA5 := B12
    have BA6 := B13
    have hne12_13 : g1_12 ≠ g1_13 := fun e => d13 (.pointer (some ⟨g1_12, 0, none⟩)) (by simp) (by rw [e])
    obtain ⟨u5, rfl, q5⟩ := q5
    obtain ⟨A5, c5, rfl, _⟩ := id q5
    obtain ⟨u11, rfl, q11⟩ := q11
    obtain ⟨A6, c6, rfl, _⟩ := id q11
    refine any_store (i := 14) (by kernel_rfl) rfl rfl rfl rfl rfl rfl (cells := [.bool (ngB (x.num * ((y.den : Nat) : Int))), .slice A5 (digs 10000 ((x.num * ((y.den : Nat) : Int))).natAbs).length c5]) rfl BA5 rfl (by kernel_rfl) (one2 rfl rfl) fun w12 hg12 BN12 => ?_
    replace q11 := off q11 BA5 no_ints2 hg12
    replace q5 := off q5 BA5 no_ints2 hg12
    replace k0s := off k0s BA5 no_ints2 hg12
    replace k0d := off k0d BA5 no_ints2 hg12
    replace k0z : IsR w12 (.agg #[.bool (ngB (x).num), .slice A0 (digs 10000 (x).num.natAbs).length c0]) ((x).num) := ⟨_, rfl, k0s⟩
    replace k0 : IsP w12 (.agg #[.bool (ngB (x).num), .slice A0 (digs 10000 (x).num.natAbs).length c0, .slice D0 (digs 10000 (x).den).length e0]) (x) := ⟨_, _, rfl, k0s, k0d⟩
    replace B0 := B0.grown hg12 (by omega)
    replace k1s := off k1s BA5 no_ints2 hg12
    replace k1d := off k1d BA5 no_ints2 hg12
    replace k1z : IsR w12 (.agg #[.bool (ngB (y).num), .slice A1 (digs 10000 (y).num.natAbs).length c1]) ((y).num) := ⟨_, rfl, k1s⟩
    replace k1 : IsP w12 (.agg #[.bool (ngB (y).num), .slice A1 (digs 10000 (y).num.natAbs).length c1, .slice D1 (digs 10000 (y).den).length e1]) (y) := ⟨_, _, rfl, k1s, k1d⟩
    replace B1 := B1.grown hg12 (by omega)
    replace BR0 := BR0.grown hg12 (by omega)
    replace BA6 := BA6.grown hg12 (by omega)
    replace bb := bb.trans ((Below.refl _ _).grown hg12 bb.size (fun g hg => by injection hg with hg; omega))
    have hsz12 := bb.size
    have B5 : Blk w12 (g1_12) _ _ := BN12
    have k5s := q5
    have k5 : IsR w12 (.agg #[.bool (ngB (x.num * ((y.den : Nat) : Int))), .slice A5 (digs 10000 ((x.num * ((y.den : Nat) : Int))).natAbs).length c5]) ((x.num * ((y.den : Nat) : Int))) := ⟨_, rfl, k5s⟩
    refine any_store (i := 15) (by kernel_rfl) rfl rfl rfl rfl rfl rfl (cells := [.bool (ngB (y.num * ((x.den : Nat) : Int))), .slice A6 (digs 10000 ((y.num * ((x.den : Nat) : Int))).natAbs).length c6]) rfl BA6 rfl (by kernel_rfl) (one2 rfl rfl) fun w13 hg13 BN13 => ?_
    replace q11 := off q11 BA6 no_ints2 hg13
    replace k0s := off k0s BA6 no_ints2 hg13
    replace k0d := off k0d BA6 no_ints2 hg13
    replace k0z : IsR w13 (.agg #[.bool (ngB (x).num), .slice A0 (digs 10000 (x).num.natAbs).length c0]) ((x).num) := ⟨_, rfl, k0s⟩
    replace k0 : IsP w13 (.agg #[.bool (ngB (x).num), .slice A0 (digs 10000 (x).num.natAbs).length c0, .slice D0 (digs 10000 (x).den).length e0]) (x) := ⟨_, _, rfl, k0s, k0d⟩
    replace B0 := B0.grown hg13 (by omega)
    replace k1s := off k1s BA6 no_ints2 hg13
    replace k1d := off k1d BA6 no_ints2 hg13
    replace k1z : IsR w13 (.agg #[.bool (ngB (y).num), .slice A1 (digs 10000 (y).num.natAbs).length c1]) ((y).num) := ⟨_, rfl, k1s⟩
    replace k1 : IsP w13 (.agg #[.bool (ngB (y).num), .slice A1 (digs 10000 (y).num.natAbs).length c1, .slice D1 (digs 10000 (y).den).length e1]) (y) := ⟨_, _, rfl, k1s, k1d⟩
    replace B1 := B1.grown hg13 (by omega)
    replace BR0 := BR0.grown hg13 (by omega)
    replace k5s := off k5s BA6 no_ints2 hg13
    replace k5 : IsR w13 (.agg #[.bool (ngB (x.num * ((y.den : Nat) : Int))), .slice A5 (digs 10000 ((x.num * ((y.den : Nat) : Int))).natAbs).length c5]) ((x.num * ((y.den : Nat) : Int))) := ⟨_, rfl, k5s⟩
    replace B5 := B5.grown hg13 (by omega)
    replace bb := bb.trans ((Below.refl _ _).grown hg13 bb.size (fun g hg => by injection hg with hg; omega))
    have hsz13 := bb.size
    have B6 : Blk w13 (g1_13) _ _ := BN13
    have k6s := q11
    have k6 : IsR w13 (.agg #[.bool (ngB (y.num * ((x.den : Nat) : Int))), .slice A6 (digs 10000 ((y.num * ((x.den : Nat) : Int))).natAbs).length c6]) ((y.num * ((x.den : Nat) : Int))) := ⟨_, rfl, k6s⟩
    refine any_done (by kernel_rfl) ?_
    have sB := bb.size
    go_upto_region 2 with (fail)
    refine flow 9 [Pd.eq (.agg #[.bool (ngB (x.num * ((y.den : Nat) : Int))), .slice A5 (digs 10000 ((x.num * ((y.den : Nat) : Int))).natAbs).length c5]), Pd.eq (.agg #[.bool (ngB (y.num * ((x.den : Nat) : Int))), .slice A6 (digs 10000 ((y.num * ((x.den : Nat) : Int))).natAbs).length c6]), pr (((x.num * ((y.den : Nat) : Int)) + (y.num * ((x.den : Nat) : Int)))), Pd.eq (.pointer (some ⟨w.heap.size, 2, none⟩)), Pd.eq (.slice D0 (digs 10000 (x).den).length e0), Pd.eq (.pointer (some ⟨w.heap.size + 1, 2, none⟩)), Pd.eq (.slice D1 (digs 10000 (y).den).length e1), ps .i64 (digs 10000 (x.den * y.den)) w13.heap.size, ppf (x + y) w13.heap.size] (by kernel_rfl) (by kernel_rfl) ?ob2 ?done2
    case ob2 =>
      refine And.intro (ob_load rfl (wt_none rfl) (ev_far rfl rfl) (fun w2 hb => run_loadAll Tryz.underlying53 rfl (by kernel_rfl) (B5.drew.below hb)) (fun _ _ => rfl)) ?_
      refine And.intro (ob_load rfl (wt_none rfl) (ev_far rfl rfl) (fun w2 hb => run_loadAll Tryz.underlying53 rfl (by kernel_rfl) (B6.drew.below hb)) (fun _ _ => rfl)) ?_
      refine And.intro (ob_call2 rfl Tryz.func114 (by kernel_rfl) (wt_none rfl) (ev_dep (j := 0) (by kernel_rfl) rfl rfl) (ev_dep (j := 1) (by kernel_rfl) rfl rfl) (fun w2 u0 u1 hb h0 h1 => by obtain rfl := h0; obtain rfl := h1; exact (radd_any _ _ _ _ _ (k5.drew.below hb) (k6.drew.below hb) (Nat.le_trans lp (by decide)) (Nat.le_trans lq (by decide))).mono fun e w3 h => RetR.pd h)) ?_
      refine And.intro (ob_fieldAddr rfl (wt_none rfl) (ev_far rfl rfl) (fun _ => by kernel_rfl) (fun _ => rfl)) ?_
      refine And.intro (ob_load rfl (wt_none rfl) (ev_dep (j := 3) (by kernel_rfl) rfl rfl) (fun w2 hb => run_load1 Tryz.underlying51 rfl ((B0.drew.below hb).cell 2)) (fun _ _ => rfl)) ?_
      refine And.intro (ob_fieldAddr rfl (wt_none rfl) (ev_far rfl rfl) (fun _ => by kernel_rfl) (fun _ => rfl)) ?_
      refine And.intro (ob_load rfl (wt_none rfl) (ev_dep (j := 5) (by kernel_rfl) rfl rfl) (fun w2 hb => run_load1 Tryz.underlying51 rfl ((B1.drew.below hb).cell 2)) (fun _ _ => rfl)) ?_
      refine And.intro (ob_call2 rfl Tryz.func112 (by kernel_rfl) (wt_none rfl) (ev_dep (j := 4) (by kernel_rfl) rfl rfl) (ev_dep (j := 6) (by kernel_rfl) rfl rfl) (fun w2 u0 u1 hb h0 h1 => by obtain rfl := h0; obtain rfl := h1; exact (refMul_any _ _ x.den y.den _ (k0d.drew.below hb) (k1d.drew.below hb) (Nat.le_trans (dec_le _) (by have := hl.2; omega)) (Nat.le_trans (dec_le _) (by have := hl2.2; omega))).mono fun e w3 h => RetS.pd h hb.size)) ?_
      refine And.intro (ob_call2 rfl Tryz.func86 (by kernel_rfl) (wt_none rfl) (ev_dep (j := 2) (by kernel_rfl) rfl rfl) (ev_dep (j := 7) (by kernel_rfl) rfl rfl) (fun w2 u0 u1 hb h0 h1 => by exact (HA.out ▸ rlow_any _ _ _ (x.den * y.den) _ h0 h1.1 (Nat.mul_ne_zero x.den_nz y.den_nz) HLZ.out HLD.out).mono fun e w3 h => RetPF.pdf h hb.size)) ?_
      trivial
    case done2 =>
      refine fun w14 hb14 v0 h0 v1 h1 v2 h2 v3 h3 v4 h4 v5 h5 v6 h6 v7 h7 v8 h8 b hbf => ?_
      obtain rfl := h0; obtain rfl := h1; obtain rfl := h3; obtain rfl := h4; obtain rfl := h5; obtain rfl := h6
      have q2 := h2
      obtain ⟨q7, f7⟩ := h7
      obtain ⟨q8, f8⟩ := h8
      simp only [Act.put, List.setIfInBounds_toArray, List.set_cons_zero, List.set_cons_succ] at hbf
      subst hbf
      replace B0 := B0.below hb14
      replace k0s := k0s.below hb14
      replace k0d := k0d.below hb14
      replace k0z := k0z.below hb14
      replace k0 := k0.below hb14
      replace B1 := B1.below hb14
      replace k1s := k1s.below hb14
      replace k1d := k1d.below hb14
      replace k1z := k1z.below hb14
      replace k1 := k1.below hb14
      replace BR0 := BR0.below hb14
      replace B5 := B5.below hb14
      replace k5s := k5s.below hb14
      replace k5 := k5.below hb14
      replace B6 := B6.below hb14
      replace k6s := k6s.below hb14
      replace k6 := k6.below hb14
      replace bb := bb.trans (hb14.mono bb.size)
      have hsz14 := bb.size
      have s_7 := sB
      have s_8 := sB
      obtain ⟨u8, t8, rfl, q8, d8⟩ := q8
      obtain ⟨A9, c9, rfl, _⟩ := id q8
      obtain ⟨D9, e9, rfl, _⟩ := id d8
      refine any_store (i := 9) (by kernel_rfl) rfl rfl rfl rfl rfl rfl (cells := [.bool (ngB (x + y).num), .slice A9 (digs 10000 (x + y).num.natAbs).length c9, .slice D9 (digs 10000 (x + y).den).length e9]) rfl BR0 rfl (by kernel_rfl) (one3 rfl rfl rfl) fun w9 hg9 B9 => ?_
      have k9 := off q8 BR0 no_ints3 hg9
      have d9 := off d8 BR0 no_ints3 hg9
      have f9 := f8.mono (show w.heap.size ≤ _ from s_8)
      have bb9 := bb.trans ((Below.refl _ _).grown hg9 bb.size (fun g hg => by injection hg with hg; omega))
      obtain ⟨C0, C1, C2, _, _, _⟩ := three B9
      refine any_done (by kernel_rfl) ?_
      go_wp2
      exact bodyPost_ret (v := .agg #[.bool (ngB (x + y).num), .slice A9 (digs 10000 (x + y).num.natAbs).length c9, .slice D9 (digs 10000 (x + y).den).length e9]) (by simp [results, Tryz.results62, go_sem, C0, C1, C2]) rfl ⟨_, rfl, ⟨_, _, rfl, k9, d9⟩, f9, bb9⟩
/-- A variable that holds this fraction (of the document's own, of the program's). -/
def HoldP (w : World) (g : Nat) (q : Rat) : Prop := ∃ u t, Blk w g 55 #[.bool (ngB q.num), u, t] ∧ IsS w .i64 u (digs 10000 q.num.natAbs) ∧ IsS w .i64 t (digs 10000 q.den)
def HoldQ (w : World) (g : Nat) (q : Rat) : Prop := ∃ u t, Blk w g 44 #[.bool (ngB q.num), u, t] ∧ IsS w .u64 u (digs 4294967296 q.num.natAbs) ∧ IsS w .u64 t (digs 4294967296 q.den)
theorem HoldP.below {w w' : World} {g : Nat} {q : Rat} (h : HoldP w g q) (hb : Below w.heap.size w w') : HoldP w' g q := by
  obtain ⟨u, t, h1, h2, h3⟩ := h
  exact ⟨u, t, h1.below hb, h2.below hb, h3.below hb⟩
theorem HoldQ.below {w w' : World} {g : Nat} {q : Rat} (h : HoldQ w g q) (hb : Below w.heap.size w w') : HoldQ w' g q := by
  obtain ⟨u, t, h1, h2, h3⟩ := h
  exact ⟨u, t, h1.below hb, h2.below hb, h3.below hb⟩
/-- The sum, and the product, of these. -/
def sumq (l : List Rat) : Rat := l.foldl (· + ·) 0
theorem take_snoc {l : List Rat} {k : Nat} {q : Rat} (h : l[k]? = some q) : l.take (k + 1) = l.take k ++ [q] := by rw [List.take_add_one, h]; rfl
/-- All from 0 to 1, and their sum 1. -/
def wholeQ (l : List Rat) : Prop := (∀ q ∈ l, ¬ q < 0 ∧ ¬ 1 < q) ∧ sumq l = 1
instance (l : List Rat) : Decidable (wholeQ l) := by unfold wholeQ; infer_instance
/-- A fraction of the document's own and an error's number; nothing and one. -/
def RetPE (q : Rat) (n : Int) (w : World) (e : Ending) (w' : World) : Prop := ∃ v, e = .returned (.tuple #[v, .int .i64 n]) ∧ IsP w' v q ∧ Below w.heap.size w w'
def ppn (q : Rat) (n : Int) : Pd := ⟨fun w t => ∃ v, t = .tuple #[v, .int .i64 n] ∧ IsP w v q, fun h hb => by obtain ⟨v, e, h1⟩ := h; exact ⟨v, e, h1.below hb⟩⟩
theorem RetPE.pd {q : Rat} {n : Int} {w : World} {e : Ending} {w' : World} (h : RetPE q n w e w') : RetPd (ppn q n) w e w' := by
  obtain ⟨v, h1, h2, h3⟩ := h
  exact ⟨_, h1, ⟨v, rfl, h2⟩, h3⟩
end Go.Proofs.YtfnohdgnhdfpaaaGreat.rat
namespace Go.Proofs.YtfnohdgnhdfpaaaGreat.rat
open Go.RowKit Go.ChangeShapes Go.WideShapes Go.ChangeAt Go.Joins Go.Deep Go.Proofs.YtfnohdgnhdfpaaaGreat.num Go.Proofs.YtfnohdgnhdfpaaaGreat.mem Go.Proofs.YtfnohdgnhdfpaaaGreat.nat Go.Proofs.YtfnohdgnhdfpaaaGreat.txt Go.Proofs.YtfnohdgnhdfpaaaGreat.str Go.Proofs.YtfnohdgnhdfpaaaGreat.flow Go.Proofs.YtfnohdgnhdfpaaaGreat.whl
set_option linter.unusedVariables false
/-- A slice of structs of a sign, limbs, and limbs, as it came in. -/
def ArgQs (w : World) (v : Value) : Prop := ∃ A n c, v = .slice A n c ∧ n ≤ c ∧ c ≤ maxLen ∧ ∀ i, i < n → ∃ ad b u t l m, A = some ad ∧ w.cell? (ad.add (i * 3)) = some (.bool b) ∧ w.cell? (ad.add (i * 3 + 1)) = some u ∧ w.cell? (ad.add (i * 3 + 2)) = some t ∧ IsS w .u64 u l ∧ Lt 18446744073709551616 l ∧ IsS w .u64 t m ∧ Lt 18446744073709551616 m
theorem trod_q {H : Type} {enc : TypeId × Value → H} {P : Program} {W : World} {fuel : Nat} {t e : TypeId} {f0 f1 g0 g1 : Field} {c0 c1 c2 : Value} {x : DataW H × List MemPlace} (hs : P.underlying t = some (.struct #[f0, f1])) (ho : (f0.offset == 0 && f1.offset == 2 && P.cellsOf f0.type == 2 && P.cellsOf f1.type == 1) = true)
    (hs2 : P.underlying f0.type = some (.struct #[g0, g1])) (hone : oneCellFields P #[g0, g1] = true) (hb : P.underlying g0.type = some .bool) (hsl : P.underlying g1.type = some (.slice e)) (hsl2 : P.underlying f1.type = some (.slice e)) (he : P.underlying e = some (.int .u64)) (ce : P.cellsOf e = 1)
    (hf : DataW.trod enc P W 0 (fun _ => true) true fuel t [c0, c1, c2] = some x) : ∃ b l m, c0 = .bool b ∧ IsS W .u64 c1 l ∧ Lt 18446744073709551616 l ∧ IsS W .u64 c2 m ∧ Lt 18446744073709551616 m := by
  simp only [Bool.and_eq_true, beq_iff_eq] at ho
  obtain ⟨⟨⟨o0, o1⟩, k0⟩, k1⟩ := ho
  obtain ⟨xs, n, _, hx, _, hlen, hg⟩ := DataW.trod_struct hs hf
  have h0 := hg 0 f0 rfl
  have h1 := hg 1 f1 rfl
  simp [o0, o1, k0, k1] at h0 h1
  match xs, hlen with
  | [y0, y1], _ =>
    have h0' : DataW.trod enc P W 0 (fun _ => true) true n f0.type [c0, c1] = some y0 := by simpa using h0
    have h1' : DataW.trod enc P W 0 (fun _ => true) true n f1.type [c2] = some y1 := by simpa using h1
    obtain ⟨zs, n2, _, hz, _, hlen2, hg2⟩ := DataW.trod_struct hs2 h0'
    obtain ⟨p0, q0⟩ := hone_of hone 0 g0 rfl
    obtain ⟨p1, q1⟩ := hone_of hone 1 g1 rfl
    have j0 := hg2 0 g0 rfl
    have j1 := hg2 1 g1 rfl
    simp [p0, p1, q0, q1] at j0 j1
    match zs, hlen2 with
    | [z0, z1], _ =>
      have j0' : DataW.trod enc P W 0 (fun _ => true) true n2 g0.type [c0] = some z0 := by simpa using j0
      have j1' : DataW.trod enc P W 0 (fun _ => true) true n2 g1.type [c1] = some z1 := by simpa using j1
      obtain ⟨b, e0, _⟩ := DataW.trod_bool hb j0'
      injection e0 with e0 _
      subst e0
      obtain ⟨l, a1, a2⟩ := trod_nat hsl he ce j1'
      obtain ⟨m, b1, b2⟩ := trod_nat hsl2 he ce h1'
      exact ⟨b, l, m, rfl, a1, a2, b1, b2⟩
end Go.Proofs.YtfnohdgnhdfpaaaGreat.rat
namespace Go.Proofs.YtfnohdgnhdfpaaaGreat.rat
open Go.RowKit Go.Proofs.YtfnohdgnhdfpaaaGreat.num Go.Proofs.YtfnohdgnhdfpaaaGreat.mem Go.Proofs.YtfnohdgnhdfpaaaGreat.nat Go.Proofs.YtfnohdgnhdfpaaaGreat.txt Go.Proofs.YtfnohdgnhdfpaaaGreat.str Go.Proofs.YtfnohdgnhdfpaaaGreat.flow Go.Proofs.YtfnohdgnhdfpaaaGreat.whl
set_option linter.unusedVariables false
section
variable {P : Program}
/-- What an append leaves: slices elsewhere, rows and variables elsewhere are kept. -/
def Grew (w w' : World) (v v' : Value) : Prop := Keeps w w' v v' ∧ w.grownBy w' v.ownBlock ∧ ∀ g, g < w.heap.size → v.ownBlock ≠ some g → v'.ownBlock ≠ some g
end
theorem FarF.keep {k : IntKind} {B : Nat} {w w' : World} {v v' : Value} {ps : List Elt} (h : FarF k B w v ps) (hk : Keeps w w' v v') : FarF k B w' v' ps := fun r hr => by
  obtain ⟨⟨a1, a2⟩, b1, b2⟩ := h r hr
  have x1 := hk _ _ _ a1 b1
  have x2 := hk _ _ _ a2 b2
  exact ⟨⟨x1.1, x2.1⟩, x1.2, x2.2⟩
/-- Two rows that grow side by side: each one's elements lie elsewhere than both. -/
def TwoRows (w wr : World) (v4 v5 : Value) (ps rs : List Elt) : Prop := RowF 44 wr w.heap.size v4 ps ∧ RowF 55 wr w.heap.size v5 rs ∧ (FarF .u64 4294967296 wr v4 ps ∧ FarF .u64 4294967296 wr v5 ps) ∧ (FarF .i64 10000 wr v4 rs ∧ FarF .i64 10000 wr v5 rs) ∧ (∀ g, v4.ownBlock = some g → v5.ownBlock ≠ some g) ∧ Below w.heap.size w wr
theorem TwoRows.below {w wr w' : World} {v4 v5 : Value} {ps rs : List Elt} (h : TwoRows w wr v4 v5 ps rs) (hb : Below wr.heap.size wr w') : TwoRows w w' v4 v5 ps rs :=
  ⟨h.1.below hb, h.2.1.below hb, ⟨h.2.2.1.1.below hb, h.2.2.1.2.below hb⟩, ⟨h.2.2.2.1.1.below hb, h.2.2.2.1.2.below hb⟩, h.2.2.2.2.1, h.2.2.2.2.2.trans (hb.mono h.2.2.2.2.2.size)⟩
/-- The first one grows. -/
theorem TwoRows.one {w wr w' : World} {v4 v5 v' : Value} {ps rs : List Elt} {p : Elt} (h : TwoRows w wr v4 v5 ps rs) (hrow : RowF 44 w' w.heap.size v' (ps ++ [p])) (hg : Grew wr w' v4 v') (hb : Below w.heap.size wr w') (hp : IsE .u64 4294967296 wr p) (f4 : Far v4 p.2.1 ∧ Far v4 p.2.2) (f5 : Far v5 p.2.1 ∧ Far v5 p.2.2) : TwoRows w w' v' v5 (ps ++ [p]) rs := by
  obtain ⟨h1, h2, ⟨h3, h4⟩, ⟨h5, h6⟩, h7, h8⟩ := h
  obtain ⟨k1, k2, k3⟩ := hg
  have keep : ∀ {k : IntKind} {B : Nat} {r : Elt}, IsE k B wr r → Far v4 r.2.1 → Far v4 r.2.2 → IsE k B w' r ∧ Far v' r.2.1 ∧ Far v' r.2.2 := fun a b c => by
    have x1 := k1 _ _ _ a.1 b
    have x2 := k1 _ _ _ a.2 c
    exact ⟨⟨x1.1, x2.1⟩, x1.2, x2.2⟩
  refine ⟨hrow, h2.other k2 (fun g hg e => h7 g e hg), ⟨h3.snoc k1 hp f4.1 f4.2, ?_⟩, ⟨h5.keep k1, ?_⟩, ?_, h8.trans hb⟩
  · intro r hr
    rcases List.mem_append.1 hr with hr | hr
    · exact ⟨(keep (h3 r hr).1 (h3 r hr).2.1 (h3 r hr).2.2).1, (h4 r hr).2⟩
    · obtain rfl := List.mem_singleton.1 hr
      exact ⟨(keep hp f4.1 f4.2).1, f5⟩
  · intro r hr
    exact ⟨(keep (h5 r hr).1 (h5 r hr).2.1 (h5 r hr).2.2).1, (h6 r hr).2⟩
  · intro g e4 e5
    have hlt := h2.under g e5
    exact k3 g hlt (fun e => h7 g e e5) e4
/-- The second one grows. -/
theorem TwoRows.two {w wr w' : World} {v4 v5 v' : Value} {ps rs : List Elt} {p : Elt} (h : TwoRows w wr v4 v5 ps rs) (hrow : RowF 55 w' w.heap.size v' (rs ++ [p])) (hg : Grew wr w' v5 v') (hb : Below w.heap.size wr w') (hp : IsE .i64 10000 wr p) (f4 : Far v4 p.2.1 ∧ Far v4 p.2.2) (f5 : Far v5 p.2.1 ∧ Far v5 p.2.2) : TwoRows w w' v4 v' ps (rs ++ [p]) := by
  obtain ⟨h1, h2, ⟨h3, h4⟩, ⟨h5, h6⟩, h7, h8⟩ := h
  obtain ⟨k1, k2, k3⟩ := hg
  have keep : ∀ {k : IntKind} {B : Nat} {r : Elt}, IsE k B wr r → Far v5 r.2.1 → Far v5 r.2.2 → IsE k B w' r ∧ Far v' r.2.1 ∧ Far v' r.2.2 := fun a b c => by
    have x1 := k1 _ _ _ a.1 b
    have x2 := k1 _ _ _ a.2 c
    exact ⟨⟨x1.1, x2.1⟩, x1.2, x2.2⟩
  refine ⟨h1.other k2 (fun g hg e => h7 g hg e), hrow, ⟨?_, h4.keep k1⟩, ⟨?_, h6.snoc k1 hp f5.1 f5.2⟩, ?_, h8.trans hb⟩
  · intro r hr
    exact ⟨(keep (h4 r hr).1 (h4 r hr).2.1 (h4 r hr).2.2).1, (h3 r hr).2⟩
  · intro r hr
    rcases List.mem_append.1 hr with hr | hr
    · exact ⟨(keep (h6 r hr).1 (h6 r hr).2.1 (h6 r hr).2.2).1, (h5 r hr).2⟩
    · obtain rfl := List.mem_singleton.1 hr
      exact ⟨(keep hp f5.1 f5.2).1, f4⟩
  · intro g e4 e5
    have hlt := h1.under g e4
    exact k3 g hlt (fun e => h7 g e4 e) e5
/-- The value is a slice of these ints. -/
def IsI (w : World) (v : Value) (l : List Int) : Prop := ∃ A c, v = .slice A l.length c ∧ l.length ≤ c ∧ c ≤ maxLen ∧ (∀ z ∈ l, -9223372036854775808 ≤ z ∧ z ≤ 9223372036854775807) ∧ ∀ (i : Nat) (z : Int), l[i]? = some z → ∃ ad, A = some ad ∧ w.cell? (ad.add i) = some (.int .i64 z)
theorem IsI.below {w w' : World} {v : Value} {l : List Int} (h : IsI w v l) (hb : Below w.heap.size w w') : IsI w' v l := by
  obtain ⟨A, c, e, h1, h2, hr, h3⟩ := h
  refine ⟨A, c, e, h1, h2, hr, fun i z hz => ?_⟩
  obtain ⟨ad, e2, c0⟩ := h3 i z hz
  exact ⟨ad, e2, (hb.cell (World.block_lt_of_cell? w _ c0)).trans c0⟩
theorem IsI.shape {w : World} {v : Value} {l : List Int} (h : IsI w v l) : ∃ A c, v = .slice A l.length c ∧ l.length ≤ c ∧ c ≤ maxLen := by
  obtain ⟨A, c, e, h1, h2, _⟩ := h
  exact ⟨A, c, e, h1, h2⟩
theorem IsI.at_ {w : World} {A : Option Addr} {n c : Nat} {l : List Int} {i : Nat} {z : Int} (h : IsI w (.slice A n c) l) (hz : l[i]? = some z) : ∃ ad, A = some ad ∧ i < n ∧ w.cell? (ad.add i) = some (.int .i64 z) ∧ -9223372036854775808 ≤ z ∧ z ≤ 9223372036854775807 := by
  obtain ⟨A', c', e, h1, h2, hr, h3⟩ := h
  injection e with e1 e2 e3
  subst e1; subst e2; subst e3
  obtain ⟨ad, e4, c0⟩ := h3 i z hz
  have := hr z (List.mem_of_getElem? hz)
  exact ⟨ad, e4, (List.getElem?_eq_some_iff.1 hz).1, c0, this.1, this.2⟩
/-- Fractions of the document's own, and an error's number. -/
def RetLE (l : List Rat) (n : Int) (w : World) (e : Ending) (w' : World) : Prop := ∃ V, e = .returned (.tuple #[V, .int .i64 n]) ∧ SlF .i64 10000 w' V (if n = 0 then l else []) ∧ Below w.heap.size w w'
theorem index1_any {P : Program} {t e : TypeId} (hu : P.underlying t = some (.slice e)) (hs : (P.info? e).map (·.size) = some 1) (ad : Addr) {n c k : Nat} (hk : k < n) (w : World) : (Instr.indexAt t (.slice (some ad) n c) (.int .i64 (k : Int))).run P w = .ok (.pointer (some (ad.add k))) w := by
  cases hq : P.info? e with
  | none => simp [hq] at hs
  | some inf =>
    have hsz : inf.size = 1 := by simpa [hq] using hs
    simp [Instr.indexAt, asIntOf, go_sem, run_underlying hu, sizeOf, typeInfo, hq, hsz, hk]
end Go.Proofs.YtfnohdgnhdfpaaaGreat.rat
namespace Go.Proofs.YtfnohdgnhdfpaaaGreat.rat
open Go.RowKit Go.ChangeShapes Go.WideShapes Go.ChangeAt Go.Joins Go.Deep Go.Proofs.YtfnohdgnhdfpaaaGreat.num Go.Proofs.YtfnohdgnhdfpaaaGreat.mem Go.Proofs.YtfnohdgnhdfpaaaGreat.nat Go.Proofs.YtfnohdgnhdfpaaaGreat.txt Go.Proofs.YtfnohdgnhdfpaaaGreat.str Go.Proofs.YtfnohdgnhdfpaaaGreat.flow Go.Proofs.YtfnohdgnhdfpaaaGreat.whl
set_option linter.unusedVariables false
theorem ArgQs.below {w w' : World} {v : Value} (h : ArgQs w v) (hb : Below w.heap.size w w') : ArgQs w' v := by
  obtain ⟨A, n, c, e, h1, h2, h3⟩ := h
  refine ⟨A, n, c, e, h1, h2, fun i hi => ?_⟩
  obtain ⟨ad, b, u, t, l, m, e2, c0, c1, c2, k1, k2, k3, k4⟩ := h3 i hi
  exact ⟨ad, b, u, t, l, m, e2, (hb.cell (World.block_lt_of_cell? w _ c0)).trans c0, (hb.cell (World.block_lt_of_cell? w _ c1)).trans c1, (hb.cell (World.block_lt_of_cell? w _ c2)).trans c2, k1.below hb, k2, k3.below hb, k4⟩
/-- Fractions of the program's in a slice, and an error's number. -/
def RetQLE (l : List Rat) (n : Int) (w : World) (e : Ending) (w' : World) : Prop := ∃ V, e = .returned (.tuple #[V, .int .i64 n]) ∧ SlF .u64 4294967296 w' V (if n = 0 then l else []) ∧ Below w.heap.size w w'
def vi (l : List Int) : List Value := l.map (.int .i64)
theorem IsI.news {w : World} {A : Option Addr} {n c : Nat} {l : List Int} (h : IsI w (.slice A n c) l) : ∀ (i : Nat) (u : Value), (vi l)[i]? = some u → ∃ ad, A = some ad ∧ w.cell? (ad.add i) = some u := by
  intro i u hu
  rw [vi, List.getElem?_map] at hu
  cases hz : l[i]? with
  | none => rw [hz] at hu; cases hu
  | some z =>
    rw [hz] at hu
    obtain rfl := Option.some.inj hu
    obtain ⟨ad, h1, _, h2, _⟩ := h.at_ hz
    exact ⟨ad, h1, h2⟩
theorem IsI.take {w : World} {A : Option Addr} {n c : Nat} {l : List Int} (h : IsI w (.slice A n c) l) {m : Nat} (hm : m ≤ l.length) : IsI w (.slice A m c) (l.take m) := by
  obtain ⟨A', c', hv, h1, h2, h3, h4⟩ := h
  injection hv with e1 e2 e3
  subst e1; subst e2; subst e3
  refine ⟨A, c, by rw [List.length_take, Nat.min_eq_left hm], by rw [List.length_take]; omega, h2, fun z hz => h3 z (List.mem_of_mem_take hz), fun i z hz => h4 i z ?_⟩
  rw [List.getElem?_take] at hz
  split at hz
  · exact hz
  · cases hz
section
variable {P : Program}
end
end Go.Proofs.YtfnohdgnhdfpaaaGreat.rat
namespace Go.Proofs.YtfnohdgnhdfpaaaGreat.whl
open Go.RowKit Go.Proofs.YtfnohdgnhdfpaaaGreat.num Go.Proofs.YtfnohdgnhdfpaaaGreat.mem Go.Proofs.YtfnohdgnhdfpaaaGreat.nat Go.Proofs.YtfnohdgnhdfpaaaGreat.txt Go.Proofs.YtfnohdgnhdfpaaaGreat.str Go.Proofs.YtfnohdgnhdfpaaaGreat.flow
set_option linter.unusedVariables false
def prf (z : Int) (B : Nat) : Pd := ⟨fun w v => IsR w v z ∧ FreshZ B v, fun h hb => ⟨h.1.below hb, h.2⟩⟩
/-- The call's answer is this whole number, in new memory. -/
def RetRF (z : Int) (w : World) (e : Ending) (w' : World) : Prop := ∃ v, e = .returned v ∧ IsR w' v z ∧ FreshZ w.heap.size v ∧ Below w.heap.size w w'
theorem RetRF.pd {z : Int} {w : World} {e : Ending} {w' : World} {B : Nat} (h : RetRF z w e w') (hB : B ≤ w.heap.size) : RetPd (prf z B) w e w' := by
  obtain ⟨v, h1, h2, h3, h4⟩ := h
  exact ⟨v, h1, ⟨h2, h3.mono hB⟩, h4⟩
theorem made_pdf (b : Bool) (u : Value) (x : Nat) (z : Int) (w : World) {B : Nat} (h : IsS w .i64 u (digs 10000 x)) (hf : Fresh B u) (hz : sg b x = z) : Calls Tryz.prog 134 #[.bool b, u] w (RetPd (prf z B) w) :=
  (rmade_any b u x w h).mono fun e w' h' => ⟨_, h'.1, ⟨isR_mk (h.below h'.2) (by rw [← hz, sg_abs]) (by rw [hz]), freshZ_mk hf⟩, h'.2⟩
end Go.Proofs.YtfnohdgnhdfpaaaGreat.whl
namespace Go.Proofs.YtfnohdgnhdfpaaaGreat.rat
open Go.RowKit Go.Proofs.YtfnohdgnhdfpaaaGreat.num Go.Proofs.YtfnohdgnhdfpaaaGreat.mem Go.Proofs.YtfnohdgnhdfpaaaGreat.nat Go.Proofs.YtfnohdgnhdfpaaaGreat.txt Go.Proofs.YtfnohdgnhdfpaaaGreat.str Go.Proofs.YtfnohdgnhdfpaaaGreat.flow Go.Proofs.YtfnohdgnhdfpaaaGreat.whl
set_option linter.unusedVariables false
set_option maxHeartbeats 1600000 in
set_option maxRecDepth 100000 in
theorem roff_any (a0 : Value) (x : Int) (w : World) (h0 : IsZ w a0 x) (hl : lenZ x ≤ 30000) :
    Calls Tryz.prog 87 #[a0] w (RetRF x w) := by
  obtain ⟨u0, rfl, s0⟩ := h0
  obtain ⟨A0, c0, rfl, _⟩ := id s0
  have HL : Hid ((digs 4294967296 x.natAbs).length ≤ 100000) := by show _ ≤ _; unfold lenZ at hl; omega
  have HZ : Hid (sg (ngB x) x.natAbs = x) := by show _ = _; exact sg_self x
  go_enter Tryz.func87, Tryz.ntmps87
  go_upto_region 1 with (fail)
  obtain ⟨wx, hwx, bb, B0, B1, hsz⟩ := vars2 w 42 53 #[.bool (ngB x), .slice A0 (digs 4294967296 (x).natAbs).length c0] #[.bool false, .slice none 0 0]
  rw [hwx]
  clear hwx
  have k0s := s0.below bb
  have k0 : IsZ wx (.agg #[.bool (ngB x), .slice A0 (digs 4294967296 (x).natAbs).length c0]) (x) := isZ_mk k0s rfl rfl
  have hszb := bb.size
  refine flow 6 [Pd.eq (.pointer (some ⟨w.heap.size, 0, none⟩)), Pd.eq (.bool (ngB x)), Pd.eq (.pointer (some ⟨w.heap.size, 1, none⟩)), Pd.eq (.slice A0 (digs 4294967296 (x).natAbs).length c0), ps .i64 (digs 10000 x.natAbs) wx.heap.size, prf (x) wx.heap.size] (by kernel_rfl) (by kernel_rfl) ?ob1 ?done1
  case ob1 =>
    refine And.intro (ob_fieldAddr rfl (wt_none rfl) (ev_far rfl rfl) (fun _ => by kernel_rfl) (fun _ => rfl)) ?_
    refine And.intro (ob_load rfl (wt_none rfl) (ev_dep (j := 0) (by kernel_rfl) rfl rfl) (fun w2 hb => run_load1 Tryz.underlying4 rfl ((B0.drew.below hb).cell 0)) (fun _ _ => rfl)) ?_
    refine And.intro (ob_fieldAddr rfl (wt_none rfl) (ev_far rfl rfl) (fun _ => by kernel_rfl) (fun _ => rfl)) ?_
    refine And.intro (ob_load rfl (wt_none rfl) (ev_dep (j := 2) (by kernel_rfl) rfl rfl) (fun w2 hb => run_load1 Tryz.underlying40 rfl ((B0.drew.below hb).cell 1)) (fun _ _ => rfl)) ?_
    refine And.intro (ob_call1 rfl Tryz.func89 (by kernel_rfl) (wt_none rfl) (ev_dep (j := 3) (by kernel_rfl) rfl rfl) (fun w2 u0 hb h0 => by obtain rfl := h0; exact (refOf_any _ _ _ (k0s.drew.below hb) HL.out).mono fun e w3 h => RetS.pd h hb.size)) ?_
    refine And.intro (ob_call2 rfl Tryz.func134 (by kernel_rfl) (wt_none rfl) (ev_dep (j := 1) (by kernel_rfl) rfl rfl) (ev_dep (j := 4) (by kernel_rfl) rfl rfl) (fun w2 u0 u1 hb h0 h1 => by obtain rfl := h0; exact made_pdf _ _ _ (x) _ h1.1 h1.2 HZ.out)) ?_
    trivial
  case done1 =>
    refine fun w1 hb1 v0 h0 v1 h1 v2 h2 v3 h3 v4 h4 v5 h5 b hbf => ?_
    obtain rfl := h0; obtain rfl := h1; obtain rfl := h2; obtain rfl := h3
    obtain ⟨q4, f4⟩ := h4
    obtain ⟨q5, f5⟩ := h5
    simp only [Act.put, List.setIfInBounds_toArray, List.set_cons_zero, List.set_cons_succ] at hbf
    subst hbf
    obtain ⟨u5, rfl, q5⟩ := q5
    obtain ⟨A9, c9, rfl, _⟩ := id q5
    have B9 := B1.below hb1
    refine any_store (i := 6) (by kernel_rfl) rfl rfl rfl rfl rfl rfl (cells := [.bool (ngB (x)), .slice A9 (digs 10000 (x).natAbs).length c9]) rfl B9 rfl (by kernel_rfl) (one2 rfl rfl) fun w9 hg9 BB9 => ?_
    have k9 := off q5 B9 no_ints2 hg9
    have f9 := (f5 _ _ rfl).mono (show w.heap.size ≤ wx.heap.size from bb.size)
    have bb9 := ((bb.trans (hb1.mono bb.size)).trans ((Below.refl _ _).grown hg9 (Nat.le_trans bb.size hb1.size) (fun g hg => by injection hg with hg; omega)))
    obtain ⟨c0, c1, _, _⟩ := Blk.two BB9
    refine any_done (by kernel_rfl) ?_
    go_wp2
    exact bodyPost_ret (v := .agg #[.bool (ngB (x)), .slice A9 (digs 10000 (x).natAbs).length c9]) (by simp [results, Tryz.results87, go_sem, c0, c1]) rfl ⟨_, rfl, isR_mk k9 rfl rfl, freshZ_mk f9, bb9⟩
set_option maxHeartbeats 1600000 in
set_option maxRecDepth 100000 in
theorem qoff_any (a0 : Value) (q : Rat) (w : World) (h0 : IsQ w a0 q) (hl : lenQ q 30000) :
    Calls Tryz.prog 42 #[a0] w (RetPF q w) := by
  obtain ⟨u0, t0, rfl, s0, r0⟩ := h0
  obtain ⟨A0, c0, rfl, _⟩ := id s0
  obtain ⟨D0, e0, rfl, _⟩ := id r0
  go_enter Tryz.func42, Tryz.ntmps42
  go_upto_region 1 with (fail)
  obtain ⟨wx, hwx, bb, B0, BR0, hsz⟩ := vars2 w 44 55 #[.bool (ngB (q).num), .slice A0 (digs 4294967296 (q).num.natAbs).length c0, .slice D0 (digs 4294967296 (q).den).length e0] #[.bool false, .slice none 0 0, .slice none 0 0]
  rw [hwx]
  clear hwx
  have k0s := s0.below bb
  have k0d := r0.below bb
  have k0z : IsZ wx (.agg #[.bool (ngB (q).num), .slice A0 (digs 4294967296 (q).num.natAbs).length c0]) (q).num := ⟨_, rfl, k0s⟩
  have k0 : IsQ wx (.agg #[.bool (ngB (q).num), .slice A0 (digs 4294967296 (q).num.natAbs).length c0, .slice D0 (digs 4294967296 (q).den).length e0]) (q) := ⟨_, _, rfl, k0s, k0d⟩
  have hsz0 := bb.size
  have sB := bb.size
  refine flow 7 [Pd.eq (.pointer (some ⟨w.heap.size, 0, none⟩)), Pd.eq (.agg #[.bool (ngB (q).num), .slice A0 (digs 4294967296 (q).num.natAbs).length c0]), prf ((q).num) wx.heap.size, Pd.eq (.pointer (some ⟨w.heap.size, 2, none⟩)), Pd.eq (.slice D0 (digs 4294967296 (q).den).length e0), ps .i64 (digs 10000 (q).den) wx.heap.size, ppf (q) wx.heap.size] (by kernel_rfl) (by kernel_rfl) ?ob2 ?done2
  case ob2 =>
    refine And.intro (ob_fieldAddr rfl (wt_none rfl) (ev_far rfl rfl) (fun _ => by kernel_rfl) (fun _ => rfl)) ?_
    refine And.intro (ob_load rfl (wt_none rfl) (ev_dep (j := 0) (by kernel_rfl) rfl rfl) (fun w2 hb => run_loadPart Tryz.underlying42 rfl (by kernel_rfl) (B0.drew.below hb) rfl) (fun _ _ => rfl)) ?_
    refine And.intro (ob_call1 rfl Tryz.func87 (by kernel_rfl) (wt_none rfl) (ev_dep (j := 1) (by kernel_rfl) rfl rfl) (fun w2 u0 hb h0 => by obtain rfl := h0; exact (roff_any _ _ _ (k0z.drew.below hb) (Nat.le_trans hl.1 (by decide))).mono fun e w3 h => RetRF.pd h hb.size)) ?_
    refine And.intro (ob_fieldAddr rfl (wt_none rfl) (ev_far rfl rfl) (fun _ => by kernel_rfl) (fun _ => rfl)) ?_
    refine And.intro (ob_load rfl (wt_none rfl) (ev_dep (j := 3) (by kernel_rfl) rfl rfl) (fun w2 hb => run_load1 Tryz.underlying40 rfl ((B0.drew.below hb).cell 2)) (fun _ _ => rfl)) ?_
    refine And.intro (ob_call1 rfl Tryz.func89 (by kernel_rfl) (wt_none rfl) (ev_dep (j := 4) (by kernel_rfl) rfl rfl) (fun w2 u0 hb h0 => by obtain rfl := h0; exact (refOf_any _ _ _ (k0d.drew.below hb) (Nat.le_trans hl.2 (by decide))).mono fun e w3 h => RetS.pd h hb.size)) ?_
    refine And.intro (ob_build2b rfl (wt_none rfl) (ev_dep (j := 2) (by kernel_rfl) rfl rfl) (ev_dep (j := 5) (by kernel_rfl) rfl rfl) (fun w2 u v hb hu hv => by obtain ⟨u7, rfl, hu7⟩ := hu.1; obtain ⟨A7, c7, rfl, _⟩ := id hu7; obtain ⟨A8, c8, rfl, _⟩ := id hv.1; exact ⟨.agg #[.bool (ngB (q).num), .slice A7 (digs 10000 (q).num.natAbs).length c7, .slice A8 (digs 10000 (q).den).length c8], by kernel_rfl, ⟨⟨_, _, rfl, hu7, hv.1⟩, freshQ_mk (hu.2 _ _ rfl) hv.2⟩⟩)) ?_
    trivial
  case done2 =>
    refine fun w11 hb11 v0 h0 v1 h1 v2 h2 v3 h3 v4 h4 v5 h5 v6 h6 b hbf => ?_
    obtain rfl := h0; obtain rfl := h1; obtain rfl := h3; obtain rfl := h4
    obtain ⟨q2, f2⟩ := h2
    obtain ⟨q5, f5⟩ := h5
    obtain ⟨q6, f6⟩ := h6
    simp only [Act.put, List.setIfInBounds_toArray, List.set_cons_zero, List.set_cons_succ] at hbf
    subst hbf
    replace B0 := B0.below hb11
    replace k0s := k0s.below hb11
    replace k0d := k0d.below hb11
    replace k0z := k0z.below hb11
    replace k0 := k0.below hb11
    replace BR0 := BR0.below hb11
    replace bb := bb.trans (hb11.mono bb.size)
    have hsz11 := bb.size
    have s_2 := sB
    have s_5 := sB
    have s_6 := sB
    obtain ⟨u6, t6, rfl, q6, d6⟩ := q6
    obtain ⟨A9, c9, rfl, _⟩ := id q6
    obtain ⟨D9, e9, rfl, _⟩ := id d6
    refine any_store (i := 7) (by kernel_rfl) rfl rfl rfl rfl rfl rfl (cells := [.bool (ngB (q).num), .slice A9 (digs 10000 (q).num.natAbs).length c9, .slice D9 (digs 10000 (q).den).length e9]) rfl BR0 rfl (by kernel_rfl) (one3 rfl rfl rfl) fun w9 hg9 B9 => ?_
    have k9 := off q6 BR0 no_ints3 hg9
    have d9 := off d6 BR0 no_ints3 hg9
    have f9 := f6.mono (show w.heap.size ≤ _ from s_6)
    have bb9 := bb.trans ((Below.refl _ _).grown hg9 bb.size (fun g hg => by injection hg with hg; omega))
    obtain ⟨C0, C1, C2, _, _, _⟩ := three B9
    refine any_done (by kernel_rfl) ?_
    go_wp2
    exact bodyPost_ret (v := .agg #[.bool (ngB (q).num), .slice A9 (digs 10000 (q).num.natAbs).length c9, .slice D9 (digs 10000 (q).den).length e9]) (by simp [results, Tryz.results42, go_sem, C0, C1, C2]) rfl ⟨_, rfl, ⟨_, _, rfl, k9, d9⟩, f9, bb9⟩
theorem SlF.drew {k : IntKind} {B : Nat} {w : World} {v : Value} {qs : List Rat} (h : SlF k B w v qs) : SlF k B w.drew v qs := h
/-- A slice of fractions is kept where a variable without ints is set that is not its row. -/
theorem SlF.off {k : IntKind} {B : Nat} {w w' : World} {v : Value} {qs : List Rat} {g : Nat} {e : TypeId} {cs : Array Value} (h : SlF k B w v qs) (hB : w.heap[g]? = some (.cells cs e (0, 0))) (hno : ∀ c ∈ cs, ∀ n, c ≠ .int k n) (hg : w.grownBy w' (some g)) (hne : v.ownBlock ≠ some g) : SlF k B w' v qs := by
  obtain ⟨ps, e1, ⟨A, c, rfl, h1, h2, h3⟩, h4⟩ := h
  have key : ∀ (g2 o2 : Nat) (x : Value), A = some ⟨g2, o2, none⟩ → ∀ j, w.cell? ⟨g2, j, none⟩ = some x → w'.cell? ⟨g2, j, none⟩ = some x := fun g2 o2 x hA j hc => by
    subst hA
    have hne2 : g2 ≠ g := fun e => hne (by subst e; rfl)
    have hb := hg.block g2 (World.block_lt_of_cell? w _ hc) (fun e => hne2 (by injection e))
    rw [← hc]
    simp only [World.cell?, hb]
  refine ⟨ps, e1, ⟨A, c, rfl, h1, h2, fun i p hp => ?_⟩, fun p hp => ⟨Go.Proofs.YtfnohdgnhdfpaaaGreat.flow.off (h4 p hp).1 hB hno hg, Go.Proofs.YtfnohdgnhdfpaaaGreat.flow.off (h4 p hp).2 hB hno hg⟩⟩
  obtain ⟨g2, o2, hA, c0, c1, c2⟩ := h3 i p hp
  exact ⟨g2, o2, hA, key g2 o2 _ hA _ c0, key g2 o2 _ hA _ c1, key g2 o2 _ hA _ c2⟩
/-- The lesser, and the greater one. -/
def minq (a b : Rat) : Rat := if b < a then b else a
def maxq (a b : Rat) : Rat := if a < b then b else a
def lowq (a : Rat) (l : List Rat) : Rat := l.foldl minq a
def higq (a : Rat) (l : List Rat) : Rat := l.foldl maxq a
/-- The least, and the greatest one of these (0 of none). -/
def leastq : List Rat → Rat
  | [] => 0
  | q :: l => lowq q l
def greatq : List Rat → Rat
  | [] => 0
  | q :: l => higq q l
theorem minq_le (a b : Rat) : minq a b ≤ a ∧ minq a b ≤ b := by unfold minq; split <;> grind
theorem le_maxq (a b : Rat) : a ≤ maxq a b ∧ b ≤ maxq a b := by unfold maxq; split <;> grind
theorem minq_or (a b : Rat) : minq a b = a ∨ minq a b = b := by unfold minq; split <;> simp
theorem maxq_or (a b : Rat) : maxq a b = a ∨ maxq a b = b := by unfold maxq; split <;> simp
theorem lowq_le (l : List Rat) : ∀ a, lowq a l ≤ a ∧ ∀ q ∈ l, lowq a l ≤ q := by
  induction l with
  | nil => intro a; exact ⟨Rat.le_refl, fun q h => by cases h⟩
  | cons b l ih =>
    intro a
    have h := ih (minq a b)
    have h2 := minq_le a b
    have e : lowq a (b :: l) = lowq (minq a b) l := rfl
    rw [e]
    refine ⟨Rat.le_trans h.1 h2.1, fun q hq => ?_⟩
    rcases List.mem_cons.1 hq with rfl | hq
    · exact Rat.le_trans h.1 h2.2
    · exact h.2 q hq
theorem le_higq (l : List Rat) : ∀ a, a ≤ higq a l ∧ ∀ q ∈ l, q ≤ higq a l := by
  induction l with
  | nil => intro a; exact ⟨Rat.le_refl, fun q h => by cases h⟩
  | cons b l ih =>
    intro a
    have h := ih (maxq a b)
    have h2 := le_maxq a b
    have e : higq a (b :: l) = higq (maxq a b) l := rfl
    rw [e]
    refine ⟨Rat.le_trans h2.1 h.1, fun q hq => ?_⟩
    rcases List.mem_cons.1 hq with rfl | hq
    · exact Rat.le_trans h2.2 h.1
    · exact h.2 q hq
theorem lowq_mem (l : List Rat) : ∀ a, lowq a l ∈ a :: l := by
  induction l with
  | nil => intro a; simp [lowq]
  | cons b l ih =>
    intro a
    have h := ih (minq a b)
    have e : lowq a (b :: l) = lowq (minq a b) l := rfl
    rw [e]
    rcases List.mem_cons.1 h with h | h
    · rw [h]
      rcases minq_or a b with k | k <;> rw [k] <;> simp
    · simp [h]
theorem higq_mem (l : List Rat) : ∀ a, higq a l ∈ a :: l := by
  induction l with
  | nil => intro a; simp [higq]
  | cons b l ih =>
    intro a
    have h := ih (maxq a b)
    have e : higq a (b :: l) = higq (maxq a b) l := rfl
    rw [e]
    rcases List.mem_cons.1 h with h | h
    · rw [h]
      rcases maxq_or a b with k | k <;> rw [k] <;> simp
    · simp [h]
theorem leastq_mem {l : List Rat} (h : l ≠ []) : leastq l ∈ l := by
  cases l with
  | nil => exact absurd rfl h
  | cons a l => exact lowq_mem l a
theorem greatq_mem {l : List Rat} (h : l ≠ []) : greatq l ∈ l := by
  cases l with
  | nil => exact absurd rfl h
  | cons a l => exact higq_mem l a
theorem leastq_le {l : List Rat} {q : Rat} (h : q ∈ l) : leastq l ≤ q := by
  cases l with
  | nil => cases h
  | cons a l =>
    rcases List.mem_cons.1 h with rfl | h
    · exact (lowq_le l _).1
    · exact (lowq_le l a).2 q h
theorem le_greatq {l : List Rat} {q : Rat} (h : q ∈ l) : q ≤ greatq l := by
  cases l with
  | nil => cases h
  | cons a l =>
    rcases List.mem_cons.1 h with rfl | h
    · exact (le_higq l _).1
    · exact (le_higq l a).2 q h
theorem leastq_eq {l : List Rat} {x : Rat} (hx : x ∈ l) (h : ∀ q ∈ l, x ≤ q) : leastq l = x :=
  Rat.le_antisymm (leastq_le hx) (h _ (leastq_mem (List.ne_nil_of_mem hx)))
theorem greatq_eq {l : List Rat} {x : Rat} (hx : x ∈ l) (h : ∀ q ∈ l, q ≤ x) : greatq l = x :=
  Rat.le_antisymm (h _ (greatq_mem (List.ne_nil_of_mem hx))) (le_greatq hx)
/-- All of these, rising. -/
def Sorts (ss qs : List Rat) : Prop := ss.Perm qs ∧ ss.Pairwise (· ≤ ·)
theorem Sorts.len {ss qs : List Rat} (h : Sorts ss qs) : ss.length = qs.length := h.1.length_eq
theorem Sorts.le {ss qs : List Rat} (h : Sorts ss qs) {i k : Nat} {x y : Rat} (hx : ss[i]? = some x) (hy : ss[k]? = some y) (hik : i < k) : x ≤ y := by
  obtain ⟨h1, rfl⟩ := List.getElem?_eq_some_iff.1 hx
  obtain ⟨h2, rfl⟩ := List.getElem?_eq_some_iff.1 hy
  exact List.pairwise_iff_getElem.1 h.2 i k h1 h2 hik
theorem Sorts.first {ss qs : List Rat} (h : Sorts ss qs) {x : Rat} (hx : ss[0]? = some x) : leastq qs = x := by
  refine leastq_eq (h.1.mem_iff.1 (List.mem_of_getElem? hx)) fun q hq => ?_
  obtain ⟨k, hk⟩ := List.mem_iff_getElem?.1 (h.1.mem_iff.2 hq)
  rcases Nat.eq_zero_or_pos k with rfl | h0
  · rw [hx] at hk; injection hk with hk; rw [hk]; exact Rat.le_refl
  · exact h.le hx hk h0
theorem Sorts.last {ss qs : List Rat} (h : Sorts ss qs) {x : Rat} {n : Nat} (hn : n + 1 = ss.length) (hx : ss[n]? = some x) : greatq qs = x := by
  refine greatq_eq (h.1.mem_iff.1 (List.mem_of_getElem? hx)) fun q hq => ?_
  obtain ⟨k, hk⟩ := List.mem_iff_getElem?.1 (h.1.mem_iff.2 hq)
  have hk2 : k < ss.length := (List.getElem?_eq_some_iff.1 hk).1
  rcases Nat.lt_or_ge k n with h0 | h0
  · exact h.le hk hx h0
  · obtain rfl : k = n := by omega
    rw [hx] at hk; injection hk with hk; rw [hk]; exact Rat.le_refl
theorem Sorts.count {ss qs : List Rat} (h : Sorts ss qs) (q : Rat) : ss.count q = qs.count q := h.1.count_eq q
/-- Two fractions, and an error's number. -/
def RetQ2 (x y : Rat) (n : Int) (w : World) (e : Ending) (w' : World) : Prop := ∃ v u, e = .returned (.tuple #[v, u, .int .i64 n]) ∧ IsQ w' v x ∧ IsQ w' u y ∧ Below w.heap.size w w'
def pq2 (x y : Rat) (n : Int) : Pd := ⟨fun w t => ∃ v u, t = .tuple #[v, u, .int .i64 n] ∧ IsQ w v x ∧ IsQ w u y, fun h hb => by obtain ⟨v, u, e, h1, h2⟩ := h; exact ⟨v, u, e, h1.below hb, h2.below hb⟩⟩
theorem RetQ2.pd {x y : Rat} {n : Int} {w : World} {e : Ending} {w' : World} (h : RetQ2 x y n w e w') : RetPd (pq2 x y n) w e w' := by
  obtain ⟨v, u, h1, h2, h3, h4⟩ := h
  exact ⟨_, h1, ⟨v, u, rfl, h2, h3⟩, h4⟩
theorem SlF.at2 {k : IntKind} {B : Nat} {w : World} {g o n c : Nat} {qs : List Rat} {i : Nat} {q : Rat} (h : SlF k B w (.slice (some ⟨g, o, none⟩) n c) qs) (hq : qs[i]? = some q) : ∃ u t, i < n ∧ w.cell? ⟨g, o + i * 3, none⟩ = some (.bool (ngB q.num)) ∧ w.cell? ⟨g, o + i * 3 + 1, none⟩ = some u ∧ w.cell? ⟨g, o + i * 3 + 2, none⟩ = some t ∧ IsS w k u (digs B q.num.natAbs) ∧ IsS w k t (digs B q.den) := by
  obtain ⟨g', o', u, t, hA, h1, h2, h3, h4, h5, h6⟩ := h.at_ hq
  injection hA with hA
  injection hA with e1 e2
  subst e1
  subst e2
  exact ⟨u, t, h1, h2, h3, h4, h5, h6⟩
/-- A row that holds something has a place, and lies in what there is. -/
theorem SlF.place {k : IntKind} {B : Nat} {w : World} {v : Value} {qs : List Rat} (h : SlF k B w v qs) (hne : qs ≠ []) : ∃ g o c, v = .slice (some ⟨g, o, none⟩) qs.length c ∧ g < w.heap.size ∧ qs.length ≤ c ∧ c ≤ maxLen := by
  obtain ⟨A, c, rfl, h1, h2⟩ := h.shape
  cases qs with
  | nil => exact absurd rfl hne
  | cons q qs =>
    obtain ⟨g, o, u, t, rfl, _, hc, _⟩ := h.at_ (i := 0) (q := q) rfl
    exact ⟨g, o, c, rfl, World.block_lt_of_cell? w _ hc, h1, h2⟩
/-- A row of nothing lies nowhere. -/
theorem SlF.any {k : IntKind} {B : Nat} {w w' : World} {v : Value} (h : SlF k B w v []) : SlF k B w' v [] := by
  obtain ⟨ps, hp, ⟨A, c, h1, h2, h3, _⟩, _⟩ := h
  obtain rfl : ps = [] := List.map_eq_nil_iff.1 hp
  exact ⟨[], rfl, ⟨A, c, h1, h2, h3, fun i p hp => by simp at hp⟩, fun p hp => by cases hp⟩
theorem SlF.lt {k : IntKind} {B : Nat} {w : World} {g o n c : Nat} {qs : List Rat} (h : SlF k B w (.slice (some ⟨g, o, none⟩) n c) qs) (hne : qs ≠ []) : g < w.heap.size := by
  obtain ⟨g', o', c', hv, h1, _⟩ := h.place hne
  injection hv with hA
  injection hA with hA
  injection hA with e1
  rw [e1]; exact h1
theorem SlF.take {k : IntKind} {B : Nat} {w : World} {A : Option Addr} {n c : Nat} {qs : List Rat} (h : SlF k B w (.slice A n c) qs) {m : Nat} (hm : m ≤ qs.length) : SlF k B w (.slice A m c) (qs.take m) := by
  obtain ⟨ps, rfl, ⟨A', c', hv, h1, h2, h3⟩, h4⟩ := h
  injection hv with e1 e2 e3
  subst e1; subst e2; subst e3
  rw [List.length_map] at hm
  refine ⟨ps.take m, by rw [List.map_take], ⟨A, c, by rw [List.length_take, Nat.min_eq_left hm], by rw [List.length_take]; omega, h2, fun i p hp => h3 i p ?_⟩, fun p hp => h4 p (List.mem_of_mem_take hp)⟩
  rw [List.getElem?_take] at hp
  split at hp
  · exact hp
  · cases hp
end Go.Proofs.YtfnohdgnhdfpaaaGreat.rat
namespace Go.Proofs.YtfnohdgnhdfpaaaGreat.flow
open Go.RowKit Go.Proofs.YtfnohdgnhdfpaaaGreat.num Go.Proofs.YtfnohdgnhdfpaaaGreat.mem Go.Proofs.YtfnohdgnhdfpaaaGreat.rat
set_option linter.unusedVariables false
section
variable {P : Program} {Q : Exit → Act → World → Prop} {ops : Array Oper} {L : List Oper} {Φ : List Pd} {w0 : World} {a0 : Act} {i : Nat} {o : Oper}
end
end Go.Proofs.YtfnohdgnhdfpaaaGreat.flow
namespace Go.Proofs.YtfnohdgnhdfpaaaGreat.rat
open Go.RowKit Go.Proofs.YtfnohdgnhdfpaaaGreat.num Go.Proofs.YtfnohdgnhdfpaaaGreat.mem Go.Proofs.YtfnohdgnhdfpaaaGreat.nat Go.Proofs.YtfnohdgnhdfpaaaGreat.txt Go.Proofs.YtfnohdgnhdfpaaaGreat.str Go.Proofs.YtfnohdgnhdfpaaaGreat.flow Go.Proofs.YtfnohdgnhdfpaaaGreat.whl
theorem IsI.drew {w : World} {v : Value} {l : List Int} (h : IsI w v l) : IsI w.drew v l := h
theorem IsI.off {w w' : World} {v : Value} {l : List Int} {g : Nat} {e : TypeId} {cs : Array Value} (h : IsI w v l) (hB : w.heap[g]? = some (.cells cs e (0, 0))) (hno : ∀ c ∈ cs, ∀ n, c ≠ .int .i64 n) (hg : w.grownBy w' (some g)) : IsI w' v l := by
  obtain ⟨A, c, rfl, h1, h2, h3, h4⟩ := h
  refine ⟨A, c, rfl, h1, h2, h3, fun i z hz => ?_⟩
  obtain ⟨ad, rfl, hc⟩ := h4 i z hz
  refine ⟨ad, rfl, hg.cell hc fun e1 => ?_⟩
  injection e1 with e1
  have hcell : ∀ q : Addr, q.block = g → w.cell? q = some (.int .i64 z) → False := by
    intro p hp hpc
    unfold World.cell? at hpc
    rw [hp, hB] at hpc
    simp only [] at hpc
    split at hpc
    · cases hpc
    · exact hno _ (Array.mem_of_getElem? hpc) _ rfl
  exact hcell _ e1 hc
/-- A slice of these, and an error's number. -/
def psl (k : IntKind) (B : Nat) (L : List Rat) (n : Int) : Pd := ⟨fun w t => ∃ V, t = .tuple #[V, .int .i64 n] ∧ SlF k B w V L, fun h hb => by obtain ⟨V, e, h1⟩ := h; exact ⟨V, e, h1.below hb⟩⟩
theorem RetQLE.pd {l : List Rat} {n : Int} {w : World} {e : Ending} {w' : World} (h : RetQLE l n w e w') : RetPd (psl .u64 4294967296 (if n = 0 then l else []) n) w e w' := by
  obtain ⟨V, h1, h2, h3⟩ := h
  exact ⟨_, h1, ⟨V, rfl, h2⟩, h3⟩
theorem RetLE.pd {l : List Rat} {n : Int} {w : World} {e : Ending} {w' : World} (h : RetLE l n w e w') : RetPd (psl .i64 10000 (if n = 0 then l else []) n) w e w' := by
  obtain ⟨V, h1, h2, h3⟩ := h
  exact ⟨_, h1, ⟨V, rfl, h2⟩, h3⟩
set_option linter.unusedVariables false
set_option linter.unusedSimpArgs false
/-- A sparse table: its struct in block g, its map in block b; it reads as T. -/
structure Spt (w : World) (g b R C : Nat) (T : List (List Rat)) : Prop where
  blk : Blk w g 124 #[.int .i64 (R : Int), .int .i64 (C : Int), .map (some b)]
  map : MapQ w b T
  shp : shp T R C
  hR : R ≤ 200
  hC : C ≤ 200
theorem Spt.below {w w' : World} {g b R C : Nat} {T : List (List Rat)} (h : Spt w g b R C T) (hb : Below w.heap.size w w') : Spt w' g b R C T := ⟨h.blk.below hb, h.map.below hb, h.shp, h.hR, h.hC⟩
theorem Spt.drew {w : World} {g b R C : Nat} {T : List (List Rat)} (h : Spt w g b R C T) : Spt w.drew g b R C T := h.below (Below.refl _ w).drew
theorem Spt.cells {w : World} {g b R C : Nat} {T : List (List Rat)} (h : Spt w g b R C T) : w.cell? ⟨g, 0, none⟩ = some (.int .i64 (R : Int)) ∧ w.cell? ⟨g, 1, none⟩ = some (.int .i64 (C : Int)) ∧ w.cell? ⟨g, 2, none⟩ = some (.map (some b)) := ⟨h.blk.cell 0, h.blk.cell 1, h.blk.cell 2⟩
set_option maxHeartbeats 1600000 in
set_option maxRecDepth 100000 in
theorem samong_any (x n : Int) (b : Bool) (w : World) (hb : b = decide (0 ≤ x ∧ x < n)) : Calls Tryz.prog 84 #[.int .i64 x, .int .i64 n] w (RetV (.bool b) w) := by
  have HB := Lib.hid hb
  clear hb
  by_cases h1 : 0 ≤ x
  · by_cases h2 : x < n
    · have HW : Hid (b = true) := by show _ = _; rw [HB.out]; exact decide_eq_true ⟨h1, h2⟩
      go_enter Tryz.func84, Tryz.ntmps84
      go_wp2
      go_ret
      exact ⟨by rw [HW.out]; simp [h1, h2], Below.refl _ _⟩
    · have HW : Hid (b = false) := by show _ = _; rw [HB.out]; exact decide_eq_false (fun h => h2 h.2)
      go_enter Tryz.func84, Tryz.ntmps84
      go_wp2
      go_ret
      exact ⟨by rw [HW.out]; simp [h1, h2], Below.refl _ _⟩
  · have HW : Hid (b = false) := by show _ = _; rw [HB.out]; exact decide_eq_false (fun h => h1 h.1)
    go_enter Tryz.func84, Tryz.ntmps84
    go_wp2
    go_ret
    exact ⟨by rw [HW.out]; simp [h1], Below.refl _ _⟩
set_option maxHeartbeats 1600000 in
set_option maxRecDepth 100000 in
theorem made_any (g b R C : Nat) (T : List (List Rat)) (w : World) (h : Spt w g b R C T) : Calls Tryz.prog 90 #[.pointer (some ⟨g, 0, none⟩)] w (RetV (.bool true) w) := by
  obtain ⟨-, -, c2⟩ := h.cells
  have hm := fun w => run_neq_map_nil (P := Tryz.prog) w 122 132 44 (some b) Tryz.underlying122
  go_enter Tryz.func90, Tryz.ntmps90
  go_wp2
  go_ret
  exact ⟨rfl, Below.refl _ _⟩
set_option maxHeartbeats 1600000 in
set_option maxRecDepth 100000 in
theorem mcells_any (g b R C : Nat) (T : List (List Rat)) (w : World) (h : Spt w g b R C T) : Calls Tryz.prog 137 #[.pointer (some ⟨g, 0, none⟩)] w (RetV (.map (some b)) w) := by
  obtain ⟨-, -, c2⟩ := h.cells
  go_enter Tryz.func137, Tryz.ntmps137
  go_wp2
  go_ret
  exact ⟨rfl, Below.refl _ _⟩
set_option maxHeartbeats 1600000 in
set_option maxRecDepth 100000 in
theorem ssize_any (g b R C : Nat) (T : List (List Rat)) (w : World) (h : Spt w g b R C T) : Calls Tryz.prog 95 #[.pointer (some ⟨g, 0, none⟩)] w (RetV (.tuple #[.int .i64 (R : Int), .int .i64 (C : Int)]) w) := by
  obtain ⟨c0, c1, c2⟩ := h.cells
  have hd := (Below.refl w.heap.size w).drew
  go_enter Tryz.func95, Tryz.ntmps95
  go_upto_region 3 with (fail)
  go_region
  all_goals
    go_wp2
    go_ret2
    exact ⟨rfl, hd⟩
set_option maxHeartbeats 1600000 in
set_option maxRecDepth 100000 in
theorem scount_any (g b R C : Nat) (T : List (List Rat)) (w : World) (h : Spt w g b R C T) : Calls Tryz.prog 97 #[.pointer (some ⟨g, 0, none⟩)] w (RetV (.int .i64 (cntT T : Int)) w) := by
  go_enter Tryz.func97, Tryz.ntmps97
  go_wp2_with fail
  refine (mcells_any _ _ _ _ _ _ h).mono ?_
  rintro e w2 ⟨rfl, b2⟩
  have hl := fun ty => (h.below b2).map.len ty
  go_wp2
  go_ret
  exact ⟨rfl, b2⟩
/-- A new sparse table, and no error. -/
def RetNew (R C : Nat) (T : List (List Rat)) (w : World) (e : Ending) (w' : World) : Prop := ∃ g b, e = .returned (.tuple #[.pointer (some ⟨g, 0, none⟩), .int .i64 0]) ∧ Spt w' g b R C T ∧ w.heap.size ≤ g ∧ w.heap.size ≤ b ∧ Below w.heap.size w w'
set_option maxHeartbeats 1600000 in
set_option maxRecDepth 100000 in
theorem snew_no (x y : Int) (w : World) (h : ¬ (0 ≤ x ∧ x < 201 ∧ 0 ≤ y ∧ y < 201)) : Calls Tryz.prog 37 #[.int .i64 x, .int .i64 y] w (RetV (.tuple #[.pointer none, .int .i64 2]) w) := by
  have HN := Lib.hid h
  clear h
  go_enter Tryz.func37, Tryz.ntmps37
  by_cases h1 : 0 ≤ x ∧ x < 201
  · have HX := Lib.hid h1
    clear h1
    go_wp2_with fail
    refine (samong_any x 201 true _ (decide_eq_true HX.out).symm).mono ?_
    rintro e w2 ⟨rfl, b2⟩
    go_wp2_with fail
    refine (samong_any y 201 false _ (decide_eq_false (fun k => HN.out ⟨HX.out.1, HX.out.2, k.1, k.2⟩)).symm).mono ?_
    rintro e w3 ⟨rfl, b3⟩
    have bb := b2.trans (b3.mono b2.size)
    go_wp2
    go_ret2
    exact ⟨rfl, bb⟩
  · have HX := Lib.hid h1
    clear h1
    go_wp2_with fail
    refine (samong_any x 201 false _ (decide_eq_false HX.out).symm).mono ?_
    rintro e w2 ⟨rfl, b2⟩
    go_wp2
    go_ret2
    exact ⟨rfl, b2⟩
set_option maxHeartbeats 1600000 in
set_option maxRecDepth 100000 in
theorem snew_ok (R C : Nat) (w : World) (hR : R ≤ 200) (hC : C ≤ 200) : Calls Tryz.prog 37 #[.int .i64 (R : Int), .int .i64 (C : Int)] w (RetNew R C (zerosT R C) w) := by
  have hmm := @run_makeMap Tryz.prog
  go_enter Tryz.func37, Tryz.ntmps37
  go_wp2_with fail
  refine (samong_any _ 201 true _ (decide_eq_true ⟨by omega, by omega⟩).symm).mono ?_
  rintro e w2 ⟨rfl, b2⟩
  go_wp2_with fail
  refine (samong_any _ 201 true _ (decide_eq_true ⟨by omega, by omega⟩).symm).mono ?_
  rintro e w3 ⟨rfl, b3⟩
  have bb := b2.trans (b3.mono b2.size)
  have ba := below_alloc (w := w3) (Nat.le_refl _) (.map #[] 0)
  have hM := mapQ_made w3 R C
  have hs1 : (w3.alloc (.map #[] 0)).heap.size = w3.heap.size + 1 := by first | rfl | exact Array.size_push _
  have ba2 := below_alloc (w := w3.alloc (.map #[] 0)) (Nat.le_refl _) (.cells #[.int .i64 (R : Int), .int .i64 (C : Int), .map (some w3.heap.size)] 124)
  have hB := Blk.new (w3.alloc (.map #[] 0)) 124 #[.int .i64 (R : Int), .int .i64 (C : Int), .map (some w3.heap.size)]
  have hsz := bb.size
  rw [hs1] at hB
  have HEND := Lib.hid (⟨_, _, rfl, ⟨hB, hM.below ba2, shp_zeros R C, hR, hC⟩, by omega, by omega, bb.trans ((ba.trans (ba2.mono ba.size)).mono bb.size)⟩ : RetNew R C (zerosT R C) w (.returned (.tuple #[.pointer (some ⟨w3.heap.size + 1, 0, none⟩), .int .i64 0])) _)
  clear ba ba2 hM hB
  go_wp2
  go_ret2
  exact HEND.out
section
variable {P : Program}
end
/-- A row of two rows. -/
def Two (w : World) (v : Value) (p q : List Rat) : Prop := ∃ u0 u1, IsV w v [u0, u1] ∧ SlF .u64 4294967296 w u0 p ∧ SlF .u64 4294967296 w u1 q
theorem Two.below {w w' : World} {v : Value} {p q : List Rat} (h : Two w v p q) (hb : Below w.heap.size w w') : Two w' v p q := by
  obtain ⟨u0, u1, h1, h2, h3⟩ := h
  exact ⟨u0, u1, h1.below hb, h2.below hb, h3.below hb⟩
section
variable {P : Program} {Q : Exit → Act → World → Prop} {ops : Array Oper} {L : List Oper} {Φ : List Pd} {w0 : World} {a0 : Act} {i : Nat} {o : Oper}
end
/-- Noughts, and a unit. -/
def zerosq (d : Nat) : List Rat := List.replicate d 0
theorem zerosq_len (d : Nat) : (zerosq d).length = d := List.length_replicate
theorem zerosq_at {d k : Nat} (h : k < d) : (zerosq d)[k]? = some 0 := by simp [zerosq, h]
/-- How many places rows have; whether all have so many; the places of one number; a product; what is turned; the table that changes nothing. -/
def wideq : List (List Rat) → Nat
  | [] => 0
  | r :: _ => r.length
def evenq (t : List (List Rat)) : Prop := ∀ r ∈ t, r.length = wideq t
/-- Limbs in new memory; a row in new memory, limbs and all. -/
def NewL (B : Nat) (ps : List Elt) : Prop := ∀ p ∈ ps, Fresh B p.2.1 ∧ Fresh B p.2.2
theorem NewL.nil (B : Nat) : NewL B [] := fun p hp => by cases hp
theorem NewL.snoc {B : Nat} {ps : List Elt} {p : Elt} (h : NewL B ps) (h1 : Fresh B p.2.1) (h2 : Fresh B p.2.2) : NewL B (ps ++ [p]) := fun a ha => by
  rcases List.mem_append.1 ha with ha | ha
  · exact h a ha
  · rw [List.mem_singleton.1 ha]; exact ⟨h1, h2⟩
def IsN (k : IntKind) (B : Nat) (w : World) (B0 : Nat) (v : Value) (r : List Rat) : Prop := ∃ ps : List Elt, ps.map (·.1) = r ∧ IsVF w v ps ∧ (∀ p ∈ ps, IsE k B w p ∧ Fresh B0 p.2.1 ∧ Fresh B0 p.2.2) ∧ ∀ g, v.ownBlock = some g → B0 ≤ g ∧ g < w.heap.size
theorem IsN.sl {k : IntKind} {B : Nat} {w : World} {B0 : Nat} {v : Value} {r : List Rat} (h : IsN k B w B0 v r) : SlF k B w v r := by
  obtain ⟨ps, h1, h2, h3, _⟩ := h
  exact ⟨ps, h1, h2, fun p hp => (h3 p hp).1⟩
theorem IsN.below {k : IntKind} {B : Nat} {w w' : World} {B0 : Nat} {v : Value} {r : List Rat} (h : IsN k B w B0 v r) (hb : Below w.heap.size w w') : IsN k B w' B0 v r := by
  obtain ⟨ps, h1, h2, h3, h4⟩ := h
  exact ⟨ps, h1, h2.below hb, fun p hp => ⟨(h3 p hp).1.below hb, (h3 p hp).2⟩, fun g hg => ⟨(h4 g hg).1, Nat.lt_of_lt_of_le (h4 g hg).2 hb.size⟩⟩
theorem IsN.mono {k : IntKind} {B : Nat} {w : World} {B0 B1 : Nat} {v : Value} {r : List Rat} (h : IsN k B w B0 v r) (hb : B1 ≤ B0) : IsN k B w B1 v r := by
  obtain ⟨ps, h1, h2, h3, h4⟩ := h
  exact ⟨ps, h1, h2, fun p hp => ⟨(h3 p hp).1, (h3 p hp).2.1.mono hb, (h3 p hp).2.2.mono hb⟩, fun g hg => ⟨Nat.le_trans hb (h4 g hg).1, (h4 g hg).2⟩⟩
/-- A slice of slices of fractions. -/
def SlT (k : IntKind) (B : Nat) (w : World) (v : Value) (t : List (List Rat)) : Prop := ∃ us : List Value, us.length = t.length ∧ (∃ A c, v = .slice A us.length c ∧ us.length ≤ c ∧ c ≤ maxLen ∧ ∀ (i : Nat) (u : Value), us[i]? = some u → ∃ ad, A = some ad ∧ w.cell? (ad.add i) = some u) ∧ ∀ (i : Nat) (u : Value) (r : List Rat), us[i]? = some u → t[i]? = some r → SlF k B w u r
theorem SlT.below {k : IntKind} {B : Nat} {w w' : World} {v : Value} {t : List (List Rat)} (h : SlT k B w v t) (hb : Below w.heap.size w w') : SlT k B w' v t := by
  obtain ⟨us, h1, ⟨A, c, e, h2, h3, h4⟩, h5⟩ := h
  refine ⟨us, h1, ⟨A, c, e, h2, h3, fun i u hu => ?_⟩, fun i u r hu hr => (h5 i u r hu hr).below hb⟩
  obtain ⟨ad, ha, hc⟩ := h4 i u hu
  exact ⟨ad, ha, (hb.cell (World.block_lt_of_cell? w _ hc)).trans hc⟩
theorem SlT.shape {k : IntKind} {B : Nat} {w : World} {v : Value} {t : List (List Rat)} (h : SlT k B w v t) : ∃ A c, v = .slice A t.length c ∧ t.length ≤ c ∧ c ≤ maxLen := by
  obtain ⟨us, h1, ⟨A, c, e, h2, h3, _⟩, _⟩ := h
  exact ⟨A, c, by rw [e, h1], by omega, h3⟩
theorem SlT.at_ {k : IntKind} {B : Nat} {w : World} {A : Option Addr} {n c i : Nat} {t : List (List Rat)} {r : List Rat} (h : SlT k B w (.slice A n c) t) (hr : t[i]? = some r) : ∃ ad Ar cr, A = some ad ∧ i < n ∧ w.cell? (ad.add i) = some (.slice Ar r.length cr) ∧ SlF k B w (.slice Ar r.length cr) r := by
  obtain ⟨us, h1, ⟨A', c', e, h2, h3, h4⟩, h5⟩ := h
  injection e with e1 e2 e3
  subst e1; subst e2; subst e3
  have hi : i < us.length := by have := (List.getElem?_eq_some_iff.1 hr).1; omega
  obtain ⟨ad, ha, hc⟩ := h4 i _ (List.getElem?_eq_getElem hi)
  have hs := h5 i _ r (List.getElem?_eq_getElem hi) hr
  obtain ⟨Ar, cr, e, _, _⟩ := hs.shape
  rw [e] at hc hs
  exact ⟨ad, Ar, cr, ha, hi, hc, hs⟩
/-- A slice of these rows; and an error's number. -/
def RetSlT (k : IntKind) (B : Nat) (t : List (List Rat)) (w : World) (e : Ending) (w' : World) : Prop := ∃ V, e = .returned V ∧ SlT k B w' V t ∧ Below w.heap.size w w'
def RetTE (t : List (List Rat)) (n : Int) (w : World) (e : Ending) (w' : World) : Prop := ∃ V, e = .returned (.tuple #[V, .int .i64 n]) ∧ SlT .u64 4294967296 w' V (if n = 0 then t else []) ∧ Below w.heap.size w w'
def pst (k : IntKind) (B : Nat) (t : List (List Rat)) : Pd := ⟨fun w v => SlT k B w v t, fun h hb => h.below hb⟩
def pste (t : List (List Rat)) (n : Int) : Pd := ⟨fun w v => ∃ V, v = .tuple #[V, .int .i64 n] ∧ SlT .u64 4294967296 w V t, fun h hb => by obtain ⟨V, e, h1⟩ := h; exact ⟨V, e, h1.below hb⟩⟩
theorem RetTE.pd {t : List (List Rat)} {n : Int} {w : World} {e : Ending} {w' : World} (h : RetTE t n w e w') : RetPd (pste (if n = 0 then t else []) n) w e w' := by
  obtain ⟨V, h1, h2, h3⟩ := h
  exact ⟨_, h1, ⟨V, rfl, h2⟩, h3⟩
theorem RetSlT.pd {k : IntKind} {B : Nat} {t : List (List Rat)} {w : World} {e : Ending} {w' : World} (h : RetSlT k B t w e w') : RetPd (pst k B t) w e w' := by
  obtain ⟨V, h1, h2, h3⟩ := h
  exact ⟨V, h1, h2, h3⟩
/-! Tables that a call makes by append. -/
/-- A row of fractions that lies elsewhere, limbs and all. -/
def FarS (k : IntKind) (B : Nat) (w : World) (v u : Value) (r : List Rat) : Prop := ∃ ps : List Elt, ps.map (·.1) = r ∧ IsVF w u ps ∧ FarF k B w v ps ∧ ∀ g, u.ownBlock = some g → g < w.heap.size ∧ v.ownBlock ≠ some g
theorem FarS.sl {k : IntKind} {B : Nat} {w : World} {v u : Value} {r : List Rat} (h : FarS k B w v u r) : SlF k B w u r := by
  obtain ⟨ps, h1, h2, h3, _⟩ := h
  exact ⟨ps, h1, h2, fun p hp => (h3 p hp).1⟩
theorem FarS.below {k : IntKind} {B : Nat} {w w' : World} {v u : Value} {r : List Rat} (h : FarS k B w v u r) (hb : Below w.heap.size w w') : FarS k B w' v u r := by
  obtain ⟨ps, h1, h2, h3, h4⟩ := h
  exact ⟨ps, h1, h2.below hb, h3.below hb, fun g hg => ⟨Nat.lt_of_lt_of_le (h4 g hg).1 hb.size, (h4 g hg).2⟩⟩
theorem FarS.keep {k : IntKind} {B : Nat} {w w' : World} {v v' u : Value} {r : List Rat} (h : FarS k B w v u r) (hk : Grew w w' v v') : FarS k B w' v' u r := by
  obtain ⟨ps, h1, ⟨A, c, e, h2, h2', h2''⟩, h3, h4⟩ := h
  obtain ⟨k1, k2, k3⟩ := hk
  refine ⟨ps, h1, ⟨A, c, e, h2, h2', fun i p hp => ?_⟩, h3.keep k1, fun g hg => ⟨Nat.lt_of_lt_of_le (h4 g hg).1 k2.size, k3 g (h4 g hg).1 (h4 g hg).2⟩⟩
  obtain ⟨g, o, rfl, c0, c1, c2⟩ := h2'' i p hp
  have hne : some g ≠ v.ownBlock := fun e' => (h4 g (by rw [e]; rfl)).2 e'.symm
  exact ⟨g, o, rfl, k2.cell c0 hne, k2.cell c1 hne, k2.cell c2 hne⟩
theorem IsN.far {k : IntKind} {B : Nat} {w : World} {B0 : Nat} {v u : Value} {r : List Rat} (h : IsN k B w B0 u r) (hv : ∀ g, v.ownBlock = some g → g < B0) : FarS k B w v u r := by
  obtain ⟨ps, h1, h2, h3, h4⟩ := h
  exact ⟨ps, h1, h2, fun p hp => ⟨(h3 p hp).1, (h3 p hp).2.1.far hv, (h3 p hp).2.2.far hv⟩, fun g hg => ⟨(h4 g hg).2, fun e => by have h5 := hv _ e; have h6 := (h4 g hg).1; omega⟩⟩
def TabF (k : IntKind) (B : Nat) (w : World) (v : Value) (us : List Value) (t : List (List Rat)) : Prop := us.length = t.length ∧ ∀ (i : Nat) (u : Value) (r : List Rat), us[i]? = some u → t[i]? = some r → FarS k B w v u r
theorem TabF.nil (k : IntKind) (B : Nat) (w : World) (v : Value) : TabF k B w v [] [] := ⟨rfl, fun i u r hu => by simp at hu⟩
theorem TabF.below {k : IntKind} {B : Nat} {w w' : World} {v : Value} {us : List Value} {t : List (List Rat)} (h : TabF k B w v us t) (hb : Below w.heap.size w w') : TabF k B w' v us t := ⟨h.1, fun i u r hu hr => (h.2 i u r hu hr).below hb⟩
theorem TabF.keep {k : IntKind} {B : Nat} {w w' : World} {v v' : Value} {us : List Value} {t : List (List Rat)} (h : TabF k B w v us t) (hk : Grew w w' v v') : TabF k B w' v' us t := ⟨h.1, fun i u r hu hr => (h.2 i u r hu hr).keep hk⟩
theorem TabF.snoc {k : IntKind} {B : Nat} {w w' : World} {v v' u : Value} {us : List Value} {t : List (List Rat)} {r : List Rat} (h : TabF k B w v us t) (hk : Grew w w' v v') (hu : FarS k B w v u r) : TabF k B w' v' (us ++ [u]) (t ++ [r]) := by
  have h0 := h.1
  have hk2 := h.keep hk
  refine ⟨by simp [h0], fun i a b ha hb => ?_⟩
  by_cases hi : i < us.length
  · rw [List.getElem?_append_left hi] at ha
    rw [List.getElem?_append_left (by omega)] at hb
    exact hk2.2 i a b ha hb
  · rw [List.getElem?_append_right (by omega)] at ha
    rw [List.getElem?_append_right (by omega), ← h0] at hb
    rcases hj : i - us.length with _ | j
    · rw [hj] at ha hb
      obtain rfl : u = a := by simpa using ha
      obtain rfl : r = b := by simpa using hb
      exact hu.keep hk
    · rw [hj] at ha
      simp at ha
theorem RowV.tab {k : IntKind} {B : Nat} {w : World} {base : Nat} {e : TypeId} {v : Value} {us : List Value} {t : List (List Rat)} (h : RowV w base e v us) (hf : TabF k B w v us t) : SlT k B w v t := by
  refine ⟨us, hf.1, ?_, fun i u r hu hr => (hf.2 i u r hu hr).sl⟩
  rcases h.2 with ⟨rfl, h0⟩ | ⟨g, cap, cur, rfl, _, hg, hn, hm, _, _⟩
  · obtain rfl : us = [] := List.length_eq_zero_iff.1 h0
    exact ⟨none, 0, rfl, by simp, by unfold maxLen; omega, fun i u hu => by simp at hu⟩
  · exact ⟨_, cap, rfl, hn, hm, fun i u hu => ⟨_, rfl, World.ownsRow.cells h (g := g) rfl i u hu⟩⟩
end Go.Proofs.YtfnohdgnhdfpaaaGreat.rat
namespace Go.Proofs.YtfnohdgnhdfpaaaGreat.flow
open Go.RowKit Go.Proofs.YtfnohdgnhdfpaaaGreat.num Go.Proofs.YtfnohdgnhdfpaaaGreat.mem Go.Proofs.YtfnohdgnhdfpaaaGreat.whl Go.Proofs.YtfnohdgnhdfpaaaGreat.rat
set_option linter.unusedVariables false
section
variable {P : Program} {Q : Exit → Act → World → Prop} {ops : Array Oper} {L : List Oper} {Φ : List Pd} {w0 : World} {a0 : Act} {i : Nat} {o : Oper}
end
end Go.Proofs.YtfnohdgnhdfpaaaGreat.flow
namespace Go.Proofs.YtfnohdgnhdfpaaaGreat.flow
open Go.RowKit Go.Proofs.YtfnohdgnhdfpaaaGreat.num Go.Proofs.YtfnohdgnhdfpaaaGreat.mem
set_option linter.unusedVariables false
/-- What the chain owes: in each such state it yields a value as told, in every world that holds what was there. -/
def LatesH (P : Program) (ops : Array Oper) (L : List Oper) (Φ : List Pd) (wB w0 : World) (a0 : Act) : List Nat → Prop
  | [] => True
  | q :: qs => (∃ oq, L[q]? = some oq ∧ ∀ ms w1, St L Φ w0 oq ms w1 → ∃ v, YieldsIf P ops (fun w2 => Below wB.heap.size wB w2) oq v (putM a0 L ms) ∧ (ph Φ q).p w1 v) ∧ LatesH P ops L Φ wB w0 a0 qs
theorem LatesH.at_ {P : Program} {ops : Array Oper} {L : List Oper} {Φ : List Pd} {wB w0 : World} {a0 : Act} : ∀ (pre : List Nat) (q : Nat) (rest : List Nat), LatesH P ops L Φ wB w0 a0 (pre ++ q :: rest) → ∃ oq, L[q]? = some oq ∧ ∀ ms w1, St L Φ w0 oq ms w1 → ∃ v, YieldsIf P ops (fun w2 => Below wB.heap.size wB w2) oq v (putM a0 L ms) ∧ (ph Φ q).p w1 v
  | [], q, rest, h => h.1
  | a :: pre, q, rest, h => LatesH.at_ pre q rest h.2
section
variable {P : Program} {ops : Array Oper} {L : List Oper} {Φ : List Pd} {wB w0 : World} {a0 : Act} {o : Oper} {G : Pd} {Q : Exit → Act → World → Prop}
variable {S : World → Prop}
end
end Go.Proofs.YtfnohdgnhdfpaaaGreat.flow
namespace Go.Proofs.YtfnohdgnhdfpaaaGreat.rat
open Go.RowKit Go.Proofs.YtfnohdgnhdfpaaaGreat.num Go.Proofs.YtfnohdgnhdfpaaaGreat.mem Go.Proofs.YtfnohdgnhdfpaaaGreat.nat Go.Proofs.YtfnohdgnhdfpaaaGreat.txt Go.Proofs.YtfnohdgnhdfpaaaGreat.str Go.Proofs.YtfnohdgnhdfpaaaGreat.flow Go.Proofs.YtfnohdgnhdfpaaaGreat.whl
set_option linter.unusedVariables false
theorem cells3_len (p : Elt) : (cells3 p).length = 3 := rfl
theorem flat3_len (ps : List Elt) : (flat3 ps).length = ps.length * 3 := by
  induction ps with
  | nil => rfl
  | cons p ps ih => show (cells3 p ++ flat3 ps).length = _; rw [List.length_append, ih, cells3_len, List.length_cons]; omega
theorem flat3_cons (p : Elt) (ps : List Elt) : flat3 (p :: ps) = cells3 p ++ flat3 ps := rfl
theorem flat3_set : ∀ (ps : List Elt) (i : Nat) (p : Elt), i < ps.length → (flat3 ps).take (i * 3) ++ cells3 p ++ (flat3 ps).drop (i * 3 + 3) = flat3 (ps.set i p)
  | [], i, p, h => by simp at h
  | q :: ps, 0, p, h => by
    rw [List.set_cons_zero, flat3_cons, flat3_cons]
    simp [cells3]
  | q :: ps, i + 1, p, h => by
    have ih := flat3_set ps i p (by simpa using h)
    rw [List.set_cons_succ, flat3_cons, flat3_cons, ← ih, show (i + 1) * 3 = i * 3 + 1 + 1 + 1 from by omega, show i * 3 + 1 + 1 + 1 + 3 = i * 3 + 3 + 1 + 1 + 1 from by omega]
    simp [cells3]
/-- The block holds so many elements; the first ones read as these fractions. -/
def RowN (w : World) (g n : Nat) (qs : List Rat) : Prop := ∃ ps : List Elt, ps.length = n ∧ qs.length ≤ n ∧ Blk w g 44 (flat3 ps).toArray ∧ (∀ p ∈ ps, (∃ A m c, p.2.1 = .slice A m c) ∧ ∃ A m c, p.2.2 = .slice A m c) ∧ ∀ (i : Nat) (q : Rat), qs[i]? = some q → ∃ p, ps[i]? = some p ∧ p.1 = q ∧ IsE .u64 4294967296 w p
theorem RowN.below {w w' : World} {g n : Nat} {qs : List Rat} (h : RowN w g n qs) (hb : Below w.heap.size w w') : RowN w' g n qs := by
  obtain ⟨ps, h1, h2, h3, h4, h5⟩ := h
  refine ⟨ps, h1, h2, h3.below hb, h4, fun i q hq => ?_⟩
  obtain ⟨p, k1, k2, k3⟩ := h5 i q hq
  exact ⟨p, k1, k2, k3.below hb⟩
theorem RowN.drew {w : World} {g n : Nat} {qs : List Rat} (h : RowN w g n qs) : RowN w.drew g n qs := h
theorem RowN.lt {w : World} {g n : Nat} {qs : List Rat} (h : RowN w g n qs) : g < w.heap.size := by
  obtain ⟨ps, _, _, h3, _⟩ := h
  exact h3.lt
theorem RowN.le {w : World} {g n : Nat} {qs : List Rat} (h : RowN w g n qs) : qs.length ≤ n := by
  obtain ⟨ps, _, h2, _⟩ := h
  exact h2
/-- Another variable, without ints, is set. -/
theorem RowN.offb {w w' : World} {g g2 n : Nat} {qs : List Rat} {e : TypeId} {cs : Array Value} (h : RowN w g n qs) (hB : w.heap[g2]? = some (.cells cs e (0, 0))) (hno : ∀ c ∈ cs, ∀ n, c ≠ .int .u64 n) (hg : w.grownBy w' (some g2)) (hne : g ≠ g2) : RowN w' g n qs := by
  obtain ⟨ps, h1, h2, h3, h4, h5⟩ := h
  refine ⟨ps, h1, h2, h3.grown hg hne, h4, fun i q hq => ?_⟩
  obtain ⟨p, k1, k2, k3⟩ := h5 i q hq
  exact ⟨p, k1, k2, Go.Proofs.YtfnohdgnhdfpaaaGreat.flow.off k3.1 hB hno hg, Go.Proofs.YtfnohdgnhdfpaaaGreat.flow.off k3.2 hB hno hg⟩
theorem flat3_mem {ps : List Elt} {c : Value} (h : c ∈ flat3 ps) : ∃ p ∈ ps, c ∈ cells3 p := List.mem_flatMap.1 h
theorem no_ints_flat {k : IntKind} {ps : List Elt} (h4 : ∀ p ∈ ps, (∃ A m c, p.2.1 = .slice A m c) ∧ ∃ A m c, p.2.2 = .slice A m c) : ∀ c ∈ (flat3 ps).toArray, ∀ n, c ≠ .int k n := by
  intro c hc n
  obtain ⟨p, hp, hc⟩ := flat3_mem (List.mem_toArray.1 hc)
  obtain ⟨⟨A, m, d, e1⟩, ⟨A', m', d', e2⟩⟩ := h4 p hp
  simp only [cells3, e1, e2, List.mem_cons, List.not_mem_nil, or_false] at hc
  rcases hc with rfl | rfl | rfl <;> simp
/-- A list of limbs is kept where the row is written. -/
theorem RowN.keep {w w' : World} {g n : Nat} {qs : List Rat} {k : IntKind} {v : Value} {l : List Nat} (h : RowN w g n qs) (hg : w.grownBy w' (some g)) (hs : IsS w k v l) : IsS w' k v l := by
  obtain ⟨ps, _, _, h3, h4, _⟩ := h
  exact Go.Proofs.YtfnohdgnhdfpaaaGreat.flow.off hs h3 (no_ints_flat h4) hg
/-- One of them. -/
theorem RowN.at_ {w : World} {g n i : Nat} {qs : List Rat} {q : Rat} (h : RowN w g n qs) (hq : qs[i]? = some q) : ∃ u t, i < n ∧ w.cell? ⟨g, 0 + i * 3, none⟩ = some (.bool (ngB q.num)) ∧ w.cell? ⟨g, 0 + i * 3 + 1, none⟩ = some u ∧ w.cell? ⟨g, 0 + i * 3 + 2, none⟩ = some t ∧ IsS w .u64 u (digs 4294967296 q.num.natAbs) ∧ IsS w .u64 t (digs 4294967296 q.den) := by
  obtain ⟨ps, h1, h2, h3, h4, h5⟩ := h
  obtain ⟨p, k1, rfl, k3⟩ := h5 i q hq
  obtain ⟨f0, f1, f2⟩ := flat3_at ps i p k1
  have hi := (List.getElem?_eq_some_iff.1 k1).1
  rw [Nat.zero_add]
  refine ⟨p.2.1, p.2.2, by omega, ?_, ?_, ?_, k3.1, k3.2⟩
  · rw [h3.cell, List.getElem?_toArray]; exact f0
  · rw [h3.cell, List.getElem?_toArray]; exact f1
  · rw [h3.cell, List.getElem?_toArray]; exact f2
/-- A full row is a slice of these fractions. -/
theorem RowN.sl {w : World} {g n : Nat} {qs : List Rat} (h : RowN w g n qs) (hn : qs.length = n) (hm : n ≤ 1000000000) : SlF .u64 4294967296 w (.slice (some ⟨g, 0, none⟩) n n) qs := by
  obtain ⟨ps, h1, h2, h3, h4, h5⟩ := h
  have key : ∀ (i : Nat) (p : Elt), ps[i]? = some p → qs[i]? = some p.1 ∧ IsE .u64 4294967296 w p := by
    intro i p hp
    have hi := (List.getElem?_eq_some_iff.1 hp).1
    have hq : qs[i]? = some (qs[i]'(by omega)) := List.getElem?_eq_getElem (by omega)
    obtain ⟨p', k1, k2, k3⟩ := h5 i _ hq
    rw [hp] at k1
    injection k1 with k1
    subst k1
    exact ⟨by rw [hq, k2], k3⟩
  refine ⟨ps, ?_, ⟨some ⟨g, 0, none⟩, n, by rw [h1], by omega, by unfold maxLen; omega, fun i p hp => ⟨g, 0, rfl, ?_⟩⟩, fun p hp => ?_⟩
  · refine List.ext_getElem? fun i => ?_
    rw [List.getElem?_map]
    cases hp : ps[i]? with
    | none =>
      have : ps.length ≤ i := List.getElem?_eq_none_iff.1 hp
      rw [List.getElem?_eq_none (by omega)]; rfl
    | some p => rw [(key i p hp).1]; rfl
  · obtain ⟨f0, f1, f2⟩ := flat3_at ps i p hp
    rw [Nat.zero_add]
    refine ⟨?_, ?_, ?_⟩
    · rw [h3.cell, List.getElem?_toArray]; exact f0
    · rw [h3.cell, List.getElem?_toArray]; exact f1
    · rw [h3.cell, List.getElem?_toArray]; exact f2
  · obtain ⟨i, hi⟩ := List.mem_iff_getElem?.1 hp
    exact (key i p hi).2
/-- A row that 'make' made. -/
theorem rowN_made {w : World} {g n : Nat} (h : Blk w g 44 (flat3 (List.replicate n ((0, .slice none 0 0, .slice none 0 0) : Elt))).toArray) : RowN w g n [] :=
  ⟨_, List.length_replicate, Nat.zero_le _, h, fun p hp => by obtain rfl := (List.mem_replicate.1 hp).2; exact ⟨⟨_, _, _, rfl⟩, ⟨_, _, _, rfl⟩⟩, fun i q hq => by simp at hq⟩
theorem made3 (n : Nat) : (madeCells #[.bool false, .slice none 0 0, .slice none 0 0] (n * 3)).toList = flat3 (List.replicate n ((0, .slice none 0 0, .slice none 0 0) : Elt)) := by
  have key : ∀ n j : Nat, (flat3 (List.replicate n ((0, .slice none 0 0, .slice none 0 0) : Elt)))[j]? = if j < n * 3 then some ((#[.bool false, .slice none 0 0, .slice none 0 0] : Array Value)[j % 3]?.getD undef) else none := by
    intro n
    induction n with
    | zero => intro j; simp [flat3]
    | succ n ih =>
      intro j
      rw [List.replicate_succ, flat3_cons]
      match j with
      | 0 => simp [cells3, ngB]
      | 1 => simp [cells3]; omega
      | 2 => simp [cells3]; omega
      | j + 3 =>
        have e : (cells3 ((0, .slice none 0 0, .slice none 0 0) : Elt) ++ flat3 (List.replicate n ((0, .slice none 0 0, .slice none 0 0) : Elt)))[j + 3]? = (flat3 (List.replicate n ((0, .slice none 0 0, .slice none 0 0) : Elt)))[j]? := by simp [cells3]
        rw [e, ih j]
        have h1 : (j + 3) % 3 = j % 3 := by omega
        rw [h1]
        by_cases h : j < n * 3
        · rw [if_pos h, if_pos (by omega)]
        · rw [if_neg h, if_neg (by omega)]
  apply List.ext_getElem?
  intro j
  rw [key n j]
  have h3 : j % 3 < 3 := Nat.mod_lt _ (by omega)
  by_cases h : j < n * 3
  · rw [if_pos h]
    rcases (by omega : j % 3 = 0 ∨ j % 3 = 1 ∨ j % 3 = 2) with e | e | e <;> simp [madeCells, h, e]
  · rw [if_neg h]
    simp [madeCells, h]
section
variable {P : Program}
theorem run_make_q {w : World} {t : TypeId} (ht : P.underlying t = some (.slice 44)) (hI : ∃ i, P.info? 44 = some i ∧ i.zero = some (.agg #[.bool false, .slice none 0 0, .slice none 0 0]) ∧ i.size = 3 ∧ i.bytes = 56) (n : Nat) (hn : n ≤ 1000000000) :
    ∃ w', (Instr.makeSlice t (.int .i64 (n : Int)) (.int .i64 (n : Int))).run P w = .ok (.slice (some ⟨w.heap.size, 0, none⟩) n n) w' ∧ RowN w' w.heap.size n [] ∧ Below w.heap.size w w' := by
  obtain ⟨i, hi, hz, hs, hb⟩ := hI
  obtain ⟨w', h1, h2, h3⟩ := run_make_full (P := P) w w.heap.size t 44 i _ 3 ht hi hz hs .i64 .i64 n (by rw [hb]; omega) (by unfold maxLen; omega) (Nat.le_refl _)
  refine ⟨w', h1, rowN_made ?_, (Below.refl _ w).grown h3 (Nat.le_refl _) (fun g hg => by cases hg)⟩
  obtain ⟨hl, h2⟩ := h2
  rcases h2 with ⟨h4, _⟩ | ⟨g, cap, cur, h4, _, h5, _, _, h6, h7⟩
  · cases h4
  · injection h4 with h4 _ h8
    injection h4 with h4
    injection h4 with h4 _ _
    subst h4; subst h8
    rw [List.take_of_length_le (by simp [h6])] at h7
    have e : cur = (flat3 (List.replicate n ((0, .slice none 0 0, .slice none 0 0) : Elt))).toArray := by
      rw [← made3]
      rw [show (Value.agg #[.bool false, .slice none 0 0, .slice none 0 0]).cells = #[.bool false, .slice none 0 0, .slice none 0 0] from rfl] at h7
      rw [← h7]
    rw [← e]
    exact h5
theorem wpList_make_q {w : World} {ops : Array Oper} {rest : List Oper} {o : Oper} {a : Act} {Q : Exit → Act → World → Prop} (hgd : o.guard = none) (lo co : Operand) {t : TypeId} (ho : o.op = Op.makeSlice t lo co)
    (ht : P.underlying t = some (.slice 44)) (hI : ∃ i, P.info? 44 = some i ∧ i.zero = some (.agg #[.bool false, .slice none 0 0, .slice none 0 0]) ∧ i.size = 3 ∧ i.bytes = 56) (n : Nat) (hl : a.eval lo = .int .i64 (n : Int)) (hc : a.eval co = .int .i64 (n : Int)) (hn : n ≤ 1000000000)
    (h : ∀ w', RowN w' w.heap.size n [] → Below w.heap.size w w' → wpList P ops Q rest (a.put o.dst (.slice (some ⟨w.heap.size, 0, none⟩) n n)) w') : wpList P ops Q (o :: rest) a w := by
  obtain ⟨w', h1, h2, h3⟩ := run_make_q (P := P) (w := w) ht hI n hn
  refine wpList_plain hgd fun K hK => ?_
  unfold Oper.wp execOp
  simp only [ho, hl, hc, Sem.run_bind, h1, Result.andThen_ok]
  exact hK _ _ (h w' h2 h3)
/-- The row is written at one place. -/
theorem RowN.put {w w' : World} {g n i : Nat} {qs : List Rat} {q : Rat} {u t : Value} (h : RowN w g n qs) (hi : i < n) (hu : IsS w .u64 u (digs 4294967296 q.num.natAbs)) (ht : IsS w .u64 t (digs 4294967296 q.den)) (hg : w.grownBy w' (some g)) (hc : ∀ cs, Blk w g 44 cs → Blk w' g 44 (cs.toList.take (0 + i * 3) ++ [.bool (ngB q.num), u, t] ++ cs.toList.drop (0 + i * 3 + 3)).toArray) : (i = qs.length → RowN w' g n (qs ++ [q])) ∧ (i < qs.length → RowN w' g n (qs.set i q)) := by
  have keep := fun {k v l} => h.keep (k := k) (v := v) (l := l) hg
  obtain ⟨ps, h1, h2, h3, h4, h5⟩ := h
  have hB : Blk w' g 44 (flat3 (ps.set i (q, u, t))).toArray := by
    have h6 := hc _ h3
    rw [Nat.zero_add, List.toList_toArray] at h6
    rw [← flat3_set ps i (q, u, t) (by omega)]
    exact h6
  have hS : ∀ p ∈ ps.set i (q, u, t), (∃ A m c, p.2.1 = .slice A m c) ∧ ∃ A m c, p.2.2 = .slice A m c := by
    intro p hp
    rcases List.mem_or_eq_of_mem_set hp with hp | rfl
    · exact h4 p hp
    · obtain ⟨A, c, e1, _⟩ := hu
      obtain ⟨D, d, e2, _⟩ := ht
      exact ⟨⟨_, _, _, e1⟩, ⟨_, _, _, e2⟩⟩
  have hE : IsE .u64 4294967296 w' ((q, u, t) : Elt) := ⟨keep hu, keep ht⟩
  have old : ∀ (j : Nat) (x : Rat), j ≠ i → qs[j]? = some x → ∃ p, (ps.set i (q, u, t))[j]? = some p ∧ p.1 = x ∧ IsE .u64 4294967296 w' p := by
    intro j x hj hx
    obtain ⟨p, k1, k2, k3⟩ := h5 j x hx
    exact ⟨p, by rw [List.getElem?_set_ne (fun e => hj e.symm)]; exact k1, k2, keep k3.1, keep k3.2⟩
  have new : (ps.set i (q, u, t))[i]? = some ((q, u, t) : Elt) := by rw [List.getElem?_set_self (by omega)]
  constructor
  · intro hiq
    refine ⟨ps.set i (q, u, t), by rw [List.length_set]; exact h1, by simp; omega, hB, hS, fun j x hx => ?_⟩
    by_cases hj : j = i
    · subst hj
      rw [hiq, List.getElem?_concat_length] at hx
      injection hx with hx
      subst hx
      exact ⟨_, new, rfl, hE⟩
    · refine old j x hj ?_
      have hl := (List.getElem?_eq_some_iff.1 hx).1
      rw [List.length_append, List.length_singleton] at hl
      rwa [List.getElem?_append_left (by omega)] at hx
  · intro hiq
    refine ⟨ps.set i (q, u, t), by rw [List.length_set]; exact h1, by simp; omega, hB, hS, fun j x hx => ?_⟩
    by_cases hj : j = i
    · subst hj
      rw [List.getElem?_set_self hiq] at hx
      injection hx with hx
      subst hx
      exact ⟨_, new, rfl, hE⟩
    · rw [List.getElem?_set_ne (fun e => hj e.symm)] at hx
      exact old j x hj hx
theorem grownBy_setRow (w : World) (g : Nat) (cs : Array Value) : w.grownBy (w.setRow g cs) (some g) := ⟨rfl, rfl, rfl, by simp [World.setRow], fun k _ hk => setRow_other w g k cs (fun e => hk (by rw [e]))⟩
theorem wp_store_q {o : Oper} {a : Act} {w : World} {K : Act → World → Prop} {Q : Exit → Act → World → Prop} {ty : TypeId} {x y : Operand} {g n i : Nat} {qs : List Rat} {q : Rat} {u t : Value} (hd : o.dst = none) (hop : o.op = .store ty x y) (hx : a.eval x = .pointer (some ⟨g, 0 + i * 3, none⟩)) (hy : a.eval y = .agg #[.bool (ngB q.num), u, t])
    (hI : (P.info? ty).map (·.size) = some 3) (hR : RowN w g n qs) (hi : i < n) (hu : IsS w .u64 u (digs 4294967296 q.num.natAbs)) (ht : IsS w .u64 t (digs 4294967296 q.den))
    (h : ∀ w', w.grownBy w' (some g) → (i = qs.length → RowN w' g n (qs ++ [q])) ∧ (i < qs.length → RowN w' g n (qs.set i q)) → K a w') : o.wp P a w K Q := by
  obtain ⟨ps, h1, h2, h3, h4, h5⟩ := id hR
  have one : ∀ v ∈ [Value.bool (ngB q.num), u, t], v.oneCell' = true := by
    obtain ⟨A, c, rfl, _⟩ := id hu
    obtain ⟨D, d, rfl, _⟩ := id ht
    exact one3 rfl rfl rfl
  have hrun := run_storeCells_at (P := P) g (0 + i * 3) 44 [Value.bool (ngB q.num), u, t] 0 (flat3 ps).toArray w h3 (by simp [flat3_len]; omega) one
  rw [Nat.add_zero] at hrun
  have key : ∀ (A : Addr) (W : World), (storeCells A [Value.bool (ngB q.num), u, t] 0).run P w = .ok () W → (storeVar ty A (.agg #[.bool (ngB q.num), u, t])).run P w = .ok () W := by
    intro A W hrun
    cases hq : P.info? ty with
    | none => simp [hq] at hI
    | some inf =>
      have hsz : 3 = inf.size := by simp [hq] at hI; omega
      have e : (Value.agg #[.bool (ngB q.num), u, t]).cells = ([Value.bool (ngB q.num), u, t] : List Value).toArray := rfl
      simp [storeVar, sizeOf, typeInfo, hq, e, ← hsz, hrun]
  have hst := key _ _ hrun
  unfold Oper.wp execOp
  simp only [hop, hx, hy, Instr.storeAt, Instr.sureAddr, Sem.run_bind, Sem.run_pure, Result.andThen_ok, hst, Oper.upon_skip, hd]
  refine h _ (grownBy_setRow _ _ _) (hR.put hi hu ht (grownBy_setRow _ _ _) fun cs hcs => ?_)
  unfold Blk at hcs h3 ⊢
  rw [h3] at hcs
  injection hcs with hcs
  injection hcs with hcs
  subst hcs
  exact setRow_heap w g _ _ _ _ h3
theorem ops_store_q {Q : Exit → Act → World → Prop} {ops : Array Oper} {o : Oper} {j : Nat} {rest : List Nat} {a : Act} {w : World} {ty : TypeId} {x y : Operand} {g n i : Nat} {qs : List Rat} {q : Rat} {u t : Value} (ho : ops[j]? = some o) (hgd : o.guard = none) (hd : o.dst = none) (hop : o.op = .store ty x y) (hx : a.eval x = .pointer (some ⟨g, 0 + i * 3, none⟩)) (hy : a.eval y = .agg #[.bool (ngB q.num), u, t])
    (hI : (P.info? ty).map (·.size) = some 3) (hR : RowN w g n qs) (hi : i < n) (hu : IsS w .u64 u (digs 4294967296 q.num.natAbs)) (ht : IsS w .u64 t (digs 4294967296 q.den))
    (h : ∀ w', w.grownBy w' (some g) → (i = qs.length → RowN w' g n (qs ++ [q])) ∧ (i < qs.length → RowN w' g n (qs.set i q)) → wpOps P ops Q rest a w') : wpOps P ops Q (j :: rest) a w :=
  ops_one ho hgd (wp_store_q hd hop hx hy hI hR hi hu ht h)
end
/-! Calls through a function's value. -/
section
variable {P : Program} {Q : Exit → Act → World → Prop} {ops : Array Oper} {L : List Oper} {Φ : List Pd} {w0 : World} {a0 : Act} {i : Nat} {o : Oper}
end
/-- A row of these, made by the call, and an error's number. -/
def RetRN (qs : List Rat) (w : World) (e : Ending) (w' : World) : Prop := ∃ g, e = .returned (.tuple #[.slice (some ⟨g, 0, none⟩) qs.length qs.length, .int .i64 0]) ∧ RowN w' g qs.length qs ∧ w.heap.size ≤ g ∧ Below w.heap.size w w'
/-- No row, and an error's number. -/
def RetNN (n : Int) (w : World) (e : Ending) (w' : World) : Prop := e = .returned (.tuple #[.slice none 0 0, .int .i64 n]) ∧ Below w.heap.size w w'
/-- A row of these, made by the call. -/
def prn (n : Nat) (qs : List Rat) (B : Nat) : Pd := ⟨fun w t => ∃ g, t = .tuple #[.slice (some ⟨g, 0, none⟩) n n, .int .i64 0] ∧ RowN w g n qs ∧ B ≤ g, fun h hb => by obtain ⟨g, e, h1, h2⟩ := h; exact ⟨g, e, h1.below hb, h2⟩⟩
def pro (n : Nat) (qs : List Rat) (B : Nat) : Pd := ⟨fun w v => ∃ g, v = .slice (some ⟨g, 0, none⟩) n n ∧ RowN w g n qs ∧ B ≤ g, fun h hb => by obtain ⟨g, e, h1, h2⟩ := h; exact ⟨g, e, h1.below hb, h2⟩⟩
theorem RetRN.pd {n : Nat} {qs : List Rat} {w : World} {e : Ending} {w' : World} {B : Nat} (h : RetRN qs w e w') (hn : qs.length = n) (hB : B ≤ w.heap.size) : RetPd (prn n qs B) w e w' := by
  obtain ⟨g, h1, h2, h3, h4⟩ := h
  rw [hn] at h1 h2
  exact ⟨_, h1, ⟨g, rfl, h2, Nat.le_trans hB h3⟩, h4⟩
theorem RetNN.pd {n : Int} {w : World} {e : Ending} {w' : World} (h : RetNN n w e w') : RetPd (Pd.eq (.tuple #[.slice none 0 0, .int .i64 n])) w e w' := ⟨_, h.1, rfl, h.2⟩
section
variable {P : Program} {Q : Exit → Act → World → Prop} {ops : Array Oper} {L : List Oper} {Φ : List Pd} {w0 : World} {a0 : Act} {i : Nat} {o : Oper}
end
/-- The variable's fraction is laid into the row: the variable stays as it is, even if it should be that row. -/
theorem HoldQ.row {w w' : World} {g G n : Nat} {ls : List Rat} {s : Rat} (h : HoldQ w G s) (hR : RowN w g n ls) (hg : w.grownBy w' (some g)) (hR' : RowN w' g n (ls ++ [s])) : HoldQ w' G s := by
  obtain ⟨u, t, h1, h2, h3⟩ := h
  by_cases e : g = G
  · subst e
    obtain ⟨ps, k1, k2, k3, k4, k5⟩ := id hR
    have e1 : ps.length = 1 := by
      unfold Blk at k3 h1
      rw [k3] at h1
      injection h1 with h1
      injection h1 with h1
      have := congrArg Array.size h1
      rw [List.size_toArray, flat3_len] at this
      simp at this
      omega
    obtain ⟨rs, r1, r2, r3, r4, r5⟩ := hR'
    have e2 : ls = [] := by
      rw [List.length_append, List.length_singleton] at r2
      exact List.length_eq_zero_iff.1 (by omega)
    subst e2
    obtain ⟨p, q1, q2, q3⟩ := r5 0 s rfl
    obtain ⟨r, rfl⟩ : ∃ r, rs = [r] := List.length_eq_one_iff.1 (by omega)
    obtain rfl : r = p := by simpa using q1
    subst q2
    exact ⟨r.2.1, r.2.2, r3, q3.1, q3.2⟩
  · exact ⟨u, t, h1.grown hg (fun e' => e e'.symm), hR.keep hg h2, hR.keep hg h3⟩
end Go.Proofs.YtfnohdgnhdfpaaaGreat.rat
