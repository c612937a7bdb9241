/- WholeTexts: a whole number is printed as the document says, what is printed is read, and a text is read as the document says, or refused. Condition: the arguments can be read as data. -/
import Derived.Test.YtcmjbkgcknimlaaDoorWhlR
import Derived.Test.YtcmjbkgcknimlaaDoorWhlS
import Derived.Test.YtcmjbkgcknimlaaDoorFlowS
import Derived.Deep.Cut
import Derived.Test.YtcmjbkgcknimlaaDoorCards
import Derived.Test.YtcmjbkgcknimlaaDoorTie
import Derived.OpenShut
import Derived.LaidMore
import Derived.Lay
import Derived.SevenTiedAt
import Derived.Stop.Joined
namespace Go.Proofs.YtcmjbkgcknimlaaDoor.wholeTexts
open Go.ChangeShapes Go.WideShapes Go.ChangeAt Go.RowKit Go.Proofs.YtcmjbkgcknimlaaDoor.num Go.Proofs.YtcmjbkgcknimlaaDoor.mem Go.Proofs.YtcmjbkgcknimlaaDoor.nat Go.Proofs.YtcmjbkgcknimlaaDoor.txt Go.Proofs.YtcmjbkgcknimlaaDoor.str Go.Proofs.YtcmjbkgcknimlaaDoor.flow Go.Proofs.YtcmjbkgcknimlaaDoor.whl
set_option linter.unusedVariables false

theorem own : ownKnob Tryd.prog.godebug = none := by kernel_rfl
theorem laidOut : laidOutB Tryd.prog = true := by kernel_rfl
theorem cells_u : Tryd.prog.cellsOf 74 = 1 := by kernel_rfl


set_option maxHeartbeats 6400000 in
set_option maxRecDepth 100000 in
/-- The walk: the Go text returns true; what was there is as it was. -/
theorem walk (b0 : Bool) (v0 : Value) (l0 : List Nat) (S1 : ByteArray) (w : World) (h0 : IsS w .u64 v0 l0) (u0 : Lt 18446744073709551616 l0) (z1 : S1.size ≤ maxLen) :
    Calls Tryd.prog 6 #[.agg #[.bool b0, v0], .string S1] w (RetV (.bool true) w) := by
  obtain ⟨x, hx0⟩ : ∃ x, x = cleanZ b0 l0 10 := ⟨_, rfl⟩
  have lx : lenZ x ≤ 10 := by rw [hx0]; exact cleanZ_len _ _ _
  have HX0 := Lib.hid hx0.symm
  clear hx0
  obtain ⟨m, hm⟩ : ∃ m, m = S1.data.toList.take (min S1.size 100) := ⟨_, rfl⟩
  have hml : m.length ≤ 100 := by rw [hm, List.length_take]; omega
  obtain ⟨T, hT⟩ : ∃ T, T = S1.extract 0 (min S1.size 100) := ⟨_, rfl⟩
  have HTm : StrIs T m := by rw [hT, hm]; exact (show StrIs S1 S1.data.toList from rfl).to_ _
  have HT := Lib.hid hT
  have hTs := HTm.size
  clear hm hT
  obtain ⟨sb, t, hcut, htl⟩ := cut_ex m
  obtain ⟨y, en, hF⟩ := fromR_ex 10 t
  obtain ⟨G, hG⟩ : ∃ G, G = sg sb y := ⟨_, rfl⟩
  have HG := Lib.hid hG
  clear hG
  obtain ⟨A0, c0, rfl, _⟩ := id h0
  go_enter Tryd.func6, Tryd.ntmps6
  go_upto_region 1 with (fail)
  obtain ⟨w0, hwx, bb, BP0, hsz⟩ := vars1 w 25 #[.bool b0, .slice A0 l0.length c0]
  rw [hwx]
  clear hwx
  have kp0s := h0.below bb
  have hsz0 := bb.size
  refine flows 7 [Pd.eq (.agg #[.bool b0, .slice A0 l0.length c0]), pz (x) w0.heap.size, Pd.eq (.string S1), Pd.eq (.string S1), Pd.eq (.int .i64 ((S1.size : Nat) : Int)), Pd.eq (.int .i64 ((min S1.size 100 : Nat) : Int)), Pd.eq (.string T)] (by kernel_rfl) [2, 3, 4, 5, 6] (by kernel_rfl) (fun _ _ _ d _ h => by cases d <;> exact h) ⟨⟨_, rfl, late_move rfl (wt_none rfl) (ev_far rfl rfl) (fun _ _ h => h)⟩, ⟨_, rfl, late_move rfl (wt_none rfl) (ev_far rfl rfl) (fun _ _ h => h)⟩, ⟨_, rfl, late_len rfl (wt_none rfl) (ev_dep (j := 3) (by kernel_rfl) rfl rfl) (fun _ _ hx => ⟨_, fun _ => by rw [hx]; exact len_string Tryd.underlying9 _ _, rfl⟩)⟩, ⟨_, rfl, late_min rfl (wt_none rfl) (ev_dep (j := 4) (by kernel_rfl) rfl rfl) (ev_const _) (fun _ _ _ hx hy => ⟨_, fun _ => by rw [hx, hy]; exact min_nat S1.size 100 _, rfl⟩)⟩, ⟨_, rfl, late_slice_to rfl (wt_none rfl) (ev_dep (j := 2) (by kernel_rfl) rfl rfl) (ev_dep (j := 5) (by kernel_rfl) rfl rfl) (fun _ _ _ hx hy => ⟨.string T, fun _ => by rw [hx, hy, HT.out]; exact slice_to Tryd.underlying9 _ _ (Nat.min_le_left _ _) _, rfl⟩)⟩, trivial⟩ ?ob1 ?done1
  case ob1 =>
    refine And.intro (ob_load rfl (wt_none rfl) (ev_far rfl rfl) (fun w2 hb => run_loadAll Tryd.underlying25 rfl (by kernel_rfl) (BP0.drew.below hb)) (fun _ _ => rfl)) ?_
    refine And.intro (ob_call2 rfl Tryd.func8 (by kernel_rfl) (wt_none rfl) (ev_dep (j := 0) (by kernel_rfl) rfl rfl) (ev_const _) (fun w2 u0 u1 hb h0 h1 => by obtain rfl := h0; obtain rfl := h1; exact (HX0.out ▸ zclean_any _ _ _ _ 10 _ rfl (kp0s.drew.below hb) u0 (by omega)).mono fun e w3 h => RetZ.pd h hb.size)) ?_
    refine And.intro (ob_move rfl (wt_none rfl) (ev_far rfl rfl) (fun _ _ h => h)) ?_
    refine And.intro (ob_move rfl (wt_none rfl) (ev_far rfl rfl) (fun _ _ h => h)) ?_
    refine And.intro (ob_len rfl (wt_none rfl) (ev_dep (j := 3) (by kernel_rfl) rfl rfl) (fun _ _ hx => ⟨_, by rw [hx]; exact len_string Tryd.underlying9 _ _, rfl⟩)) ?_
    refine And.intro (ob_min rfl (wt_none rfl) (ev_dep (j := 4) (by kernel_rfl) rfl rfl) (ev_const _) (fun _ _ _ hx hy => ⟨_, by rw [hx, hy]; exact min_nat S1.size 100 _, rfl⟩)) ?_
    refine And.intro (ob_slice_to rfl (wt_none rfl) (ev_dep (j := 2) (by kernel_rfl) rfl rfl) (ev_dep (j := 5) (by kernel_rfl) rfl rfl) (fun _ _ _ hx hy => ⟨.string T, by rw [hx, hy, HT.out]; exact slice_to Tryd.underlying9 _ _ (Nat.min_le_left _ _) _, rfl⟩)) ?_
    trivial
  case done1 =>
    refine fun w1 hb1 v0 h0 v1 h1 v2 h2 v3 h3 v4 h4 v5 h5 v6 h6 b hbf => ?_
    obtain rfl := h0; obtain rfl := h2; obtain rfl := h3; obtain rfl := h4; obtain rfl := h5; obtain rfl := h6
    obtain ⟨q1, f1⟩ := h1
    simp only [Act.put, List.setIfInBounds_toArray, List.set_cons_zero, List.set_cons_succ] at hbf
    subst hbf
    replace BP0 := BP0.below hb1
    replace kp0s := kp0s.below hb1
    replace bb := bb.trans (hb1.mono bb.size)
    have hsz1 := bb.size
    obtain ⟨u1, rfl, q1⟩ := q1
    obtain ⟨A2, c2, rfl, _⟩ := id q1
    refine any_store (i := 7) (by kernel_rfl) rfl rfl rfl rfl rfl rfl (cells := [.bool (ngB x), .slice A2 (digs 4294967296 (x).natAbs).length c2]) rfl BP0 rfl (by kernel_rfl) (one2 rfl rfl) fun w2 hg2 BN2 => ?_
    replace q1 := off q1 BP0 no_ints2 hg2
    replace bb := bb.trans ((Below.refl _ _).grown hg2 bb.size (fun g hg => by injection hg with hg; omega))
    have hsz2 := bb.size
    have Bx : Blk w2 (w.heap.size) _ _ := BN2
    have kxs := q1
    have kx : IsZ w2 (.agg #[.bool (ngB x), .slice A2 (digs 4294967296 (x).natAbs).length c2]) (x) := ⟨_, rfl, kxs⟩
    refine any_assign (i := 8) (.string T) (by kernel_rfl) rfl rfl rfl rfl rfl fun b hbf => ?_
    simp only [Act.put, List.setIfInBounds_toArray, List.set_cons_zero, List.set_cons_succ] at hbf
    subst hbf
    refine any_done (by kernel_rfl) ?_
    go_upto_region 2 with (fail)
    have lt2_2 := Blk.lt Bx
    refine flowp 6 [Pd.eq (.string T), pzn (G) en, pzn (G) en, pi (G), Pd.eq (.int .i64 en), pn 25 #[.bool false, .slice none 0 0] w2.heap.size] (by kernel_rfl) ?ob2 ?done2
    case ob2 =>
      refine And.intro (ob_move rfl (wt_none rfl) (ev_far rfl rfl) (fun _ _ h => h)) ?_
      refine And.intro (ob_call1 rfl Tryd.func36 (by kernel_rfl) (wt_none rfl) (ev_dep (j := 0) (by kernel_rfl) rfl rfl) (fun w2 u0 hb h0 => by obtain rfl := h0; exact HG.out ▸ parse7_one T m t sb y en _ HTm hcut (by omega) hF)) ?_
      refine And.intro (ob_move rfl (wt_none rfl) (ev_dep (j := 1) (by kernel_rfl) rfl rfl) (fun _ _ h => h)) ?_
      refine And.intro (ob_extract rfl (wt_none rfl) (ev_dep (j := 2) (by kernel_rfl) rfl rfl) (fun w2 u hu => by obtain ⟨v, rfl, q1⟩ := hu; exact ⟨v, rfl, q1⟩)) ?_
      refine And.intro (ob_extract rfl (wt_none rfl) (ev_dep (j := 2) (by kernel_rfl) rfl rfl) (fun w2 u hu => by obtain ⟨v, rfl, q1⟩ := hu; exact ⟨_, rfl, rfl⟩)) ?_
      refine And.intro (ob_alloc (z := .agg #[.bool false, .slice none 0 0]) rfl rfl (fun _ => by kernel_rfl) (fun _ _ hB h => ⟨_, rfl, hB, h⟩)) ?_
      trivial
    case done2 =>
      refine fun w3 hb3 v0 h0 v1 h1 v2 h2 v3 h3 v4 h4 v5 h5 d5 b hbf => ?_
      obtain rfl := h0; obtain rfl := h4
      clear h1
      clear h2
      have q3 := h3
      obtain ⟨g5, rfl, hg5, B5⟩ := h5
      simp only [Act.put, List.setIfInBounds_toArray, List.set_cons_zero, List.set_cons_succ] at hbf
      subst hbf
      replace Bx := Bx.below hb3
      replace kxs := kxs.below hb3
      replace kx := kx.below hb3
      replace bb := bb.trans (hb3.mono bb.size)
      have hsz3 := bb.size
      have BA5 := B5
      obtain ⟨u3, rfl, q3⟩ := q3
      obtain ⟨A5, c5, rfl, _⟩ := id q3
      refine ops_store (i := 6) rfl rfl rfl rfl rfl rfl (cells := [.bool (ngB G), .slice A5 (digs 4294967296 (G).natAbs).length c5]) rfl BA5 rfl (by kernel_rfl) (one2 rfl rfl) fun w4 hg4 BN4 => ?_
      replace q3 := off q3 BA5 no_ints2 hg4
      replace kxs := off kxs BA5 no_ints2 hg4
      replace kx : IsZ w4 (.agg #[.bool (ngB x), .slice A2 (digs 4294967296 (x).natAbs).length c2]) (x) := ⟨_, rfl, kxs⟩
      replace Bx := Bx.grown hg4 (by omega)
      replace bb := bb.trans ((Below.refl _ _).grown hg4 bb.size (fun g hg => by injection hg with hg; omega))
      have hsz4 := bb.size
      have Bg : Blk w4 (g5) _ _ := BN4
      have kgs := q3
      have kg : IsZ w4 (.agg #[.bool (ngB G), .slice A5 (digs 4294967296 (G).natAbs).length c5]) (G) := ⟨_, rfl, kgs⟩
      refine ops_assign (i := 7) (.int .i64 en) rfl rfl rfl rfl rfl fun b hbf => ?_
      simp only [Act.put, List.setIfInBounds_toArray, List.set_cons_zero, List.set_cons_succ] at hbf
      subst hbf
      refine ops_done ?_
      rcases hcut with ⟨rfl, rfl⟩ | ⟨rfl, rfl, hh⟩
      · have hgt : decide ((0 : Int) < ((T.size : Nat) : Int)) = true := by rw [List.length_cons] at hTs; exact decide_eq_true (by omega)
        rw [List.length_cons] at hTs hml
        go_upto_region 3 with (fail)
        refine flow 11 [Pd.eq (.string T), Pd.eq (.string T), Pd.eq (.int .i64 ((T.size : Nat) : Int)), Pd.eq (.bool true), Pd.eq (.bool true), Pd.eq (.string T), Pd.eq (.int .u8 45), Pd.eq (.bool true), Pd.eq (.bool true), Pd.eq (.string T), Pd.eq (.bool true)] (by kernel_rfl) (by kernel_rfl) ?ob3 ?done3
        case ob3 =>
          refine And.intro (ob_move rfl (wt_none rfl) (ev_far rfl rfl) (fun _ _ h => h)) ?_
          refine And.intro (ob_move rfl (wt_none rfl) (ev_far rfl rfl) (fun _ _ h => h)) ?_
          refine And.intro (ob_len rfl (wt_none rfl) (ev_dep (j := 1) (by kernel_rfl) rfl rfl) (fun _ _ hx => ⟨_, by rw [hx]; exact len_string Tryd.underlying9 _ _, rfl⟩)) ?_
          refine And.intro (ob_bin rfl (wt_none rfl) (ev_dep (j := 2) (by kernel_rfl) rfl rfl) (ev_const _) (fun _ _ _ hx hy => ⟨.bool true, by rw [hx, hy, bin_gtr_int, hgt], rfl⟩)) ?_
          refine And.intro (ob_move rfl (wt_none rfl) (ev_dep (j := 3) (by kernel_rfl) rfl rfl) (fun _ _ h => h)) ?_
          refine And.intro (ob_move rfl (wt_dep (c := true) (b := true) (g := 4) rfl (by kernel_rfl) rfl rfl rfl (by exact fun _ _ h => h)) (ev_far rfl rfl) (fun _ _ h => h)) ?_
          refine And.intro (ob_index rfl (wt_dep (c := true) (b := true) (g := 4) rfl (by kernel_rfl) rfl rfl rfl (by exact fun _ _ h => h)) (ev_dep (j := 5) (by kernel_rfl) rfl rfl) (ev_const _) (fun _ _ _ hx hy => ⟨.int .u8 45, by rw [hx, hy]; exact index_head Tryd.underlying9 HTm _, rfl⟩)) ?_
          refine And.intro (ob_bin rfl (wt_dep (c := true) (b := true) (g := 4) rfl (by kernel_rfl) rfl rfl rfl (by exact fun _ _ h => h)) (ev_dep (j := 6) (by kernel_rfl) rfl rfl) (ev_const _) (fun _ _ _ hx hy => ⟨.bool ((45 : Int) == 45), by rw [hx, hy]; exact bin_eql_int _ _ _ _ _, congrArg Value.bool (by decide)⟩)) ?_
          refine And.intro (ob_pick (b := true) rfl (wt_none rfl) (ev_dep (j := 4) (by kernel_rfl) rfl rfl) (ev_dep (j := 7) (by kernel_rfl) rfl rfl) (fun _ _ h => h)) ?_
          refine And.intro (ob_assign rfl (wt_none rfl) (ev_dep (j := 0) (by kernel_rfl) rfl rfl) (fun _ _ h => h)) ?_
          refine And.intro (ob_assign rfl (wt_none rfl) (ev_dep (j := 8) (by kernel_rfl) rfl rfl) (fun _ _ h => h)) ?_
          trivial
        case done3 =>
          refine fun w5 hb5 v0 h0 v1 h1 v2 h2 v3 h3 v4 h4 v5 h5 v6 h6 v7 h7 v8 h8 v9 h9 v10 h10 b hbf => ?_
          obtain rfl := h0; obtain rfl := h1; obtain rfl := h2; obtain rfl := h3; obtain rfl := h4; obtain rfl := h5; obtain rfl := h6; obtain rfl := h7; obtain rfl := h8; obtain rfl := h9; obtain rfl := h10
          simp only [Act.put, List.setIfInBounds_toArray, List.set_cons_zero, List.set_cons_succ] at hbf
          subst hbf
          replace Bx := Bx.below hb5
          replace Bg := Bg.below hb5
          replace kxs := kxs.below hb5
          replace kgs := kgs.below hb5
          replace kx := kx.below hb5
          replace kg := kg.below hb5
          replace bb := bb.trans (hb5.mono bb.size)
          have hsz5 := bb.size
          refine any_done (by kernel_rfl) ?_
          have hT1 : 1 ≤ T.size := by omega
          go_wp2_with fail
          refine (rfrom_any _ _ _ 10 _ ((by rw [← hTs]; exact HTm.from_ 1 : StrIs (T.extract 1 (t.length + 1)) t)) (by first | omega | simp) rfl (by omega) (by omega)).mono ?_
          rintro e w40 ⟨y4, e4, g4, v4, rfl, k4, b4⟩
          obtain ⟨rfl, rfl⟩ := g4.one hF
          obtain ⟨A9, c9, rfl, _⟩ := id k4
          replace Bx := Bx.below b4
          replace Bg := Bg.below b4
          replace kxs := kxs.below b4
          replace kgs := kgs.below b4
          replace kx := kx.below b4
          replace kg := kg.below b4
          replace bb := bb.trans (b4.mono bb.size)
          have hsz5 := bb.size
          go_upto_region 7 with (fail)
          have lt5_2 := Blk.lt Bx
          have lt5_5 := Blk.lt Bg
          refine flowp 7 [Pd.eq (.agg #[.bool (ngB x), .slice A2 (digs 4294967296 (x).natAbs).length c2]), Pd.eq (.string (⟨(txtz x).toArray⟩ : ByteArray)), pzn (x) 0, pzn (x) 0, pi (x), Pd.eq (.int .i64 0), pn 25 #[.bool false, .slice none 0 0] w40.heap.size] (by kernel_rfl) ?ob4 ?done4
          case ob4 =>
            refine And.intro (ob_load rfl (wt_none rfl) (ev_far rfl rfl) (fun w2 hb => run_loadAll Tryd.underlying25 rfl (by kernel_rfl) (Bx.below hb)) (fun _ _ => rfl)) ?_
            refine And.intro (ob_call1 rfl Tryd.func38 (by kernel_rfl) (wt_none rfl) (ev_dep (j := 0) (by kernel_rfl) rfl rfl) (fun w2 u0 hb h0 => by obtain rfl := h0; exact (zprint_any _ x _ (kx.below hb) (Nat.le_trans lx (by decide))).mono fun e w3 h => RetStrB.pd h)) ?_
            refine And.intro (ob_call1 rfl Tryd.func36 (by kernel_rfl) (wt_none rfl) (ev_dep (j := 1) (by kernel_rfl) rfl rfl) (fun w2 u0 hb h0 => by obtain rfl := h0; exact parse7_print x _ (Nat.le_trans lx (by decide)))) ?_
            refine And.intro (ob_move rfl (wt_none rfl) (ev_dep (j := 2) (by kernel_rfl) rfl rfl) (fun _ _ h => h)) ?_
            refine And.intro (ob_extract rfl (wt_none rfl) (ev_dep (j := 3) (by kernel_rfl) rfl rfl) (fun w2 u hu => by obtain ⟨v, rfl, q1⟩ := hu; exact ⟨v, rfl, q1⟩)) ?_
            refine And.intro (ob_extract rfl (wt_none rfl) (ev_dep (j := 3) (by kernel_rfl) rfl rfl) (fun w2 u hu => by obtain ⟨v, rfl, q1⟩ := hu; exact ⟨_, rfl, rfl⟩)) ?_
            refine And.intro (ob_alloc (z := .agg #[.bool false, .slice none 0 0]) rfl rfl (fun _ => by kernel_rfl) (fun _ _ hB h => ⟨_, rfl, hB, h⟩)) ?_
            trivial
          case done4 =>
            refine fun w6 hb6 v0 h0 v1 h1 v2 h2 v3 h3 v4 h4 v5 h5 v6 h6 d6 b hbf => ?_
            obtain rfl := h0; obtain rfl := h1; obtain rfl := h5
            clear h2
            clear h3
            have q4 := h4
            obtain ⟨g6, rfl, hg6, B6⟩ := h6
            simp only [Act.put, List.setIfInBounds_toArray, List.set_cons_zero, List.set_cons_succ] at hbf
            subst hbf
            replace Bx := Bx.below hb6
            replace Bg := Bg.below hb6
            replace kxs := kxs.below hb6
            replace kgs := kgs.below hb6
            replace kx := kx.below hb6
            replace kg := kg.below hb6
            replace k4 := k4.below hb6
            replace bb := bb.trans (hb6.mono bb.size)
            have hsz6 := bb.size
            have BA11 := B6
            obtain ⟨u4, rfl, q4⟩ := q4
            obtain ⟨A11, c11, rfl, _⟩ := id q4
            refine ops_store (i := 7) rfl rfl rfl rfl rfl rfl (cells := [.bool (ngB x), .slice A11 (digs 4294967296 (x).natAbs).length c11]) rfl BA11 rfl (by kernel_rfl) (one2 rfl rfl) fun w7 hg7 BN7 => ?_
            replace q4 := off q4 BA11 no_ints2 hg7
            replace k4 := off k4 BA11 no_ints2 hg7
            replace kxs := off kxs BA11 no_ints2 hg7
            replace kx : IsZ w7 (.agg #[.bool (ngB x), .slice A2 (digs 4294967296 (x).natAbs).length c2]) (x) := ⟨_, rfl, kxs⟩
            replace Bx := Bx.grown hg7 (by omega)
            replace kgs := off kgs BA11 no_ints2 hg7
            replace kg : IsZ w7 (.agg #[.bool (ngB G), .slice A5 (digs 4294967296 (G).natAbs).length c5]) (G) := ⟨_, rfl, kgs⟩
            replace Bg := Bg.grown hg7 (by omega)
            replace bb := bb.trans ((Below.refl _ _).grown hg7 bb.size (fun g hg => by injection hg with hg; omega))
            have hsz7 := bb.size
            have Bh : Blk w7 (g6) _ _ := BN7
            have khs := q4
            have kh : IsZ w7 (.agg #[.bool (ngB x), .slice A11 (digs 4294967296 (x).natAbs).length c11]) (x) := ⟨_, rfl, khs⟩
            refine ops_assign (i := 8) (.int .i64 0) rfl rfl rfl rfl rfl fun b hbf => ?_
            simp only [Act.put, List.setIfInBounds_toArray, List.set_cons_zero, List.set_cons_succ] at hbf
            subst hbf
            refine ops_done ?_
            go_upto_region 8 with (fail)
            refine flow 36 [Pd.eq (.agg #[.bool (ngB x), .slice A2 (digs 4294967296 (x).natAbs).length c2]), Pd.eq (.string (⟨(txtz x).toArray⟩ : ByteArray)), Pd.eq (.agg #[.bool (ngB x), .slice A2 (digs 4294967296 (x).natAbs).length c2]), pr (x), Pd.eq (.string (⟨(txtz x).toArray⟩ : ByteArray)), Pd.eq (.bool true), Pd.eq (.bool true), Pd.eq (.int .i64 en), Pd.eq (.int .i64 en), Pd.eq (.bool true), Pd.eq (.bool true), Pd.eq (.bool true), Pd.eq (.agg #[.bool (ngB G), .slice A5 (digs 4294967296 (G).natAbs).length c5]), Pd.eq (.bool true), Pd.eq (.bool true), Pd.eq (.slice A9 (digs 4294967296 y).length c9), Pd.eq (.int .i64 (((digs 4294967296 y).length : Nat) : Int)), Pd.eq (.bool (decide (0 < (((digs 4294967296 y).length : Nat) : Int)))), Pd.eq (.bool (decide (0 < (((digs 4294967296 y).length : Nat) : Int)))), Pd.eq (.slice A9 (digs 4294967296 y).length c9), pi (G), Pd.eq (.bool true), Pd.eq (.bool true), Pd.eq (.bool true), Pd.eq (.int .i64 0), Pd.eq (.bool true), Pd.eq (.bool true), Pd.eq (.bool true), Pd.eq (.agg #[.bool (ngB x), .slice A11 (digs 4294967296 (x).natAbs).length c11]), Pd.eq (.agg #[.bool (ngB x), .slice A2 (digs 4294967296 (x).natAbs).length c2]), Pd.eq (.bool true), Pd.eq (.bool true), Pd.eq (.bool true), Pd.eq (.bool true), Pd.eq (.bool true), Pd.eq (.bool true)] (by kernel_rfl) (by kernel_rfl) ?ob5 ?done5
            case ob5 =>
              refine And.intro (ob_load rfl (wt_none rfl) (ev_far rfl rfl) (fun w2 hb => run_loadAll Tryd.underlying25 rfl (by kernel_rfl) (Bx.drew.below hb)) (fun _ _ => rfl)) ?_
              refine And.intro (ob_call1 rfl Tryd.func38 (by kernel_rfl) (wt_none rfl) (ev_dep (j := 0) (by kernel_rfl) rfl rfl) (fun w2 u0 hb h0 => by obtain rfl := h0; exact (zprint_any _ x _ (kx.drew.below hb) (Nat.le_trans lx (by decide))).mono fun e w3 h => RetStrB.pd h)) ?_
              refine And.intro (ob_load rfl (wt_none rfl) (ev_far rfl rfl) (fun w2 hb => run_loadAll Tryd.underlying25 rfl (by kernel_rfl) (Bx.drew.below hb)) (fun _ _ => rfl)) ?_
              refine And.intro (ob_call1 rfl Tryd.func9 (by kernel_rfl) (wt_none rfl) (ev_dep (j := 2) (by kernel_rfl) rfl rfl) (fun w2 u0 hb h0 => by obtain rfl := h0; exact (rof_any _ _ _ (kx.drew.below hb) (Nat.le_trans lx (by decide))).mono fun e w3 h => RetR.pd h)) ?_
              refine And.intro (ob_call1 rfl Tryd.func39 (by kernel_rfl) (wt_none rfl) (ev_dep (j := 3) (by kernel_rfl) rfl rfl) (fun w2 u0 hb h0 => by exact (rprint_any _ x _ h0 (dec_z (Nat.le_trans lx (by decide)))).mono fun e w3 h => RetStrB.pd h)) ?_
              refine And.intro (ob_bin rfl (wt_none rfl) (ev_dep (j := 1) (by kernel_rfl) rfl rfl) (ev_dep (j := 4) (by kernel_rfl) rfl rfl) (fun _ _ _ hx hy => ⟨.bool ((⟨(txtz x).toArray⟩ : ByteArray).toList == (⟨(txtz x).toArray⟩ : ByteArray).toList), by rw [hx, hy]; exact bin_eql_str _ _ _ _ _, congrArg Value.bool (beq_self_eq_true _)⟩)) ?_
              refine And.intro (ob_move rfl (wt_none rfl) (ev_dep (j := 5) (by kernel_rfl) rfl rfl) (fun _ _ h => h)) ?_
              refine And.intro (ob_move rfl (wt_dep (c := true) (b := true) (g := 6) rfl (by kernel_rfl) rfl rfl rfl (by exact fun _ _ h => h)) (ev_far rfl rfl) (fun _ _ h => h)) ?_
              refine And.intro (ob_move rfl (wt_dep (c := true) (b := true) (g := 6) rfl (by kernel_rfl) rfl rfl rfl (by exact fun _ _ h => h)) (ev_far rfl rfl) (fun _ _ h => h)) ?_
              refine And.intro (ob_bin rfl (wt_dep (c := true) (b := true) (g := 6) rfl (by kernel_rfl) rfl rfl rfl (by exact fun _ _ h => h)) (ev_dep (j := 7) (by kernel_rfl) rfl rfl) (ev_dep (j := 8) (by kernel_rfl) rfl rfl) (fun _ _ _ hx hy => ⟨.bool (en == en), by rw [hx, hy]; exact bin_eql_int _ _ _ _ _, congrArg Value.bool (beq_self_eq_true _)⟩)) ?_
              refine And.intro (ob_pick (b := true) rfl (wt_none rfl) (ev_dep (j := 6) (by kernel_rfl) rfl rfl) (ev_dep (j := 9) (by kernel_rfl) rfl rfl) (fun _ _ h => h)) ?_
              refine And.intro (ob_move rfl (wt_none rfl) (ev_dep (j := 10) (by kernel_rfl) rfl rfl) (fun _ _ h => h)) ?_
              refine And.intro (ob_load rfl (wt_dep (c := true) (b := true) (g := 11) rfl (by kernel_rfl) rfl rfl rfl (by exact fun _ _ h => h)) (ev_far rfl rfl) (fun w2 hb => run_loadAll Tryd.underlying25 rfl (by kernel_rfl) (Bg.drew.below hb)) (fun _ _ => rfl)) ?_
              refine And.intro (ob_move rfl (wt_dep (c := true) (b := true) (g := 11) rfl (by kernel_rfl) rfl rfl rfl (by exact fun _ _ h => h)) (ev_far rfl rfl) (fun _ _ h => h)) ?_
              refine And.intro (ob_move rfl (wt_dep (c := true) (b := true) (g := 11) rfl (by kernel_rfl) rfl rfl rfl (by exact fun _ _ h => h)) (ev_dep (j := 13) (by kernel_rfl) rfl rfl) (fun _ _ h => h)) ?_
              refine And.intro (ob_move rfl (wt_dep (c := true) (b := true) (g := 14) rfl (by kernel_rfl) rfl rfl rfl (by exact fun _ _ h => h)) (ev_far rfl rfl) (fun _ _ h => h)) ?_
              refine And.intro (ob_len rfl (wt_dep (c := true) (b := true) (g := 14) rfl (by kernel_rfl) rfl rfl rfl (by exact fun _ _ h => h)) (ev_dep (j := 15) (by kernel_rfl) rfl rfl) (fun _ _ hx => ⟨_, by rw [hx]; exact len_slice Tryd.underlying23 _ _ _ _, rfl⟩)) ?_
              refine And.intro (ob_bin rfl (wt_dep (c := true) (b := true) (g := 14) rfl (by kernel_rfl) rfl rfl rfl (by exact fun _ _ h => h)) (ev_dep (j := 16) (by kernel_rfl) rfl rfl) (ev_const _) (fun _ _ _ hx hy => ⟨.bool (decide (0 < (((digs 4294967296 y).length : Nat) : Int))), by rw [hx, hy]; exact bin_gtr_int _ _ _ _ _, rfl⟩)) ?_
              refine And.intro (ob_pick (b := true) rfl (wt_dep (c := true) (b := true) (g := 11) rfl (by kernel_rfl) rfl rfl rfl (by exact fun _ _ h => h)) (ev_dep (j := 14) (by kernel_rfl) rfl rfl) (ev_dep (j := 17) (by kernel_rfl) rfl rfl) (fun _ _ h => h)) ?_
              refine And.intro (ob_move rfl (wt_dep (c := true) (b := true) (g := 11) rfl (by kernel_rfl) rfl rfl rfl (by exact fun _ _ h => h)) (ev_far rfl rfl) (fun _ _ h => h)) ?_
              refine And.intro (ob_build2b rfl (wt_dep (c := true) (b := true) (g := 11) rfl (by kernel_rfl) rfl rfl rfl (by exact fun _ _ h => h)) (ev_dep (j := 18) (by kernel_rfl) rfl rfl) (ev_dep (j := 19) (by kernel_rfl) rfl rfl) (fun w2 u v hb hu hv => by obtain rfl := hu; obtain rfl := hv; rw [HG.out]; exact ⟨_, by kernel_rfl, isZ_mk (k4.drew.below hb) (sg_abs _ _) (ngB_len y)⟩)) ?_
              refine And.intro (ob_call2 rfl Tryd.func10 (by kernel_rfl) (wt_dep (c := true) (b := true) (g := 11) rfl (by kernel_rfl) rfl rfl rfl (by exact fun _ _ h => h)) (ev_dep (j := 12) (by kernel_rfl) rfl rfl) (ev_dep (j := 20) (by kernel_rfl) rfl rfl) (fun w2 u0 u1 hb h0 h1 => by obtain rfl := h0; exact (zsame_eq _ _ (G) (G) _ (kg.drew.below hb) h1 rfl).mono fun e w3 h => RetV.pd h)) ?_
              refine And.intro (ob_pick (b := true) rfl (wt_none rfl) (ev_dep (j := 11) (by kernel_rfl) rfl rfl) (ev_dep (j := 21) (by kernel_rfl) rfl rfl) (fun _ _ h => h)) ?_
              refine And.intro (ob_move rfl (wt_none rfl) (ev_dep (j := 22) (by kernel_rfl) rfl rfl) (fun _ _ h => h)) ?_
              refine And.intro (ob_move rfl (wt_dep (c := true) (b := true) (g := 23) rfl (by kernel_rfl) rfl rfl rfl (by exact fun _ _ h => h)) (ev_far rfl rfl) (fun _ _ h => h)) ?_
              refine And.intro (ob_bin rfl (wt_dep (c := true) (b := true) (g := 23) rfl (by kernel_rfl) rfl rfl rfl (by exact fun _ _ h => h)) (ev_dep (j := 24) (by kernel_rfl) rfl rfl) (ev_const _) (fun _ _ _ hx hy => ⟨.bool ((0 : Int) == 0), by rw [hx, hy]; exact bin_eql_int _ _ _ _ _, congrArg Value.bool (by decide)⟩)) ?_
              refine And.intro (ob_pick (b := true) rfl (wt_none rfl) (ev_dep (j := 23) (by kernel_rfl) rfl rfl) (ev_dep (j := 25) (by kernel_rfl) rfl rfl) (fun _ _ h => h)) ?_
              refine And.intro (ob_move rfl (wt_none rfl) (ev_dep (j := 26) (by kernel_rfl) rfl rfl) (fun _ _ h => h)) ?_
              refine And.intro (ob_load rfl (wt_dep (c := true) (b := true) (g := 27) rfl (by kernel_rfl) rfl rfl rfl (by exact fun _ _ h => h)) (ev_far rfl rfl) (fun w2 hb => run_loadAll Tryd.underlying25 rfl (by kernel_rfl) (Bh.drew.below hb)) (fun _ _ => rfl)) ?_
              refine And.intro (ob_load rfl (wt_dep (c := true) (b := true) (g := 27) rfl (by kernel_rfl) rfl rfl rfl (by exact fun _ _ h => h)) (ev_far rfl rfl) (fun w2 hb => run_loadAll Tryd.underlying25 rfl (by kernel_rfl) (Bx.drew.below hb)) (fun _ _ => rfl)) ?_
              refine And.intro (ob_call2 rfl Tryd.func10 (by kernel_rfl) (wt_dep (c := true) (b := true) (g := 27) rfl (by kernel_rfl) rfl rfl rfl (by exact fun _ _ h => h)) (ev_dep (j := 28) (by kernel_rfl) rfl rfl) (ev_dep (j := 29) (by kernel_rfl) rfl rfl) (fun w2 u0 u1 hb h0 h1 => by obtain rfl := h0; obtain rfl := h1; exact (zsame_eq _ _ (x) (x) _ (kh.drew.below hb) (kx.drew.below hb) rfl).mono fun e w3 h => RetV.pd h)) ?_
              refine And.intro (ob_pick (b := true) rfl (wt_none rfl) (ev_dep (j := 27) (by kernel_rfl) rfl rfl) (ev_dep (j := 30) (by kernel_rfl) rfl rfl) (fun _ _ h => h)) ?_
              refine And.intro (ob_move rfl (wt_none rfl) (ev_dep (j := 31) (by kernel_rfl) rfl rfl) (fun _ _ h => h)) ?_
              refine And.intro (ob_call0 rfl Tryd.func24 (by kernel_rfl) (wt_dep (c := true) (b := true) (g := 32) rfl (by kernel_rfl) rfl rfl rfl (by exact fun _ _ h => h)) (fun w2 hb => (works7_any _).mono fun e w3 h => RetV.pd h)) ?_
              refine And.intro (ob_pick (b := true) rfl (wt_none rfl) (ev_dep (j := 32) (by kernel_rfl) rfl rfl) (ev_dep (j := 33) (by kernel_rfl) rfl rfl) (fun _ _ h => h)) ?_
              refine And.intro (ob_assign rfl (wt_none rfl) (ev_dep (j := 34) (by kernel_rfl) rfl rfl) (fun _ _ h => h)) ?_
              trivial
            case done5 =>
              refine fun w8 hb8 v0 h0 v1 h1 v2 h2 v3 h3 v4 h4 v5 h5 v6 h6 v7 h7 v8 h8 v9 h9 v10 h10 v11 h11 v12 h12 v13 h13 v14 h14 v15 h15 v16 h16 v17 h17 v18 h18 v19 h19 v20 h20 v21 h21 v22 h22 v23 h23 v24 h24 v25 h25 v26 h26 v27 h27 v28 h28 v29 h29 v30 h30 v31 h31 v32 h32 v33 h33 v34 h34 v35 h35 b hbf => ?_
              obtain rfl := h0; obtain rfl := h1; obtain rfl := h2; obtain rfl := h4; obtain rfl := h5; obtain rfl := h6; obtain rfl := h7; obtain rfl := h8; obtain rfl := h9; obtain rfl := h10; obtain rfl := h11; obtain rfl := h12; obtain rfl := h13; obtain rfl := h14; obtain rfl := h15; obtain rfl := h16; obtain rfl := h17; obtain rfl := h18; obtain rfl := h19; obtain rfl := h21; obtain rfl := h22; obtain rfl := h23; obtain rfl := h24; obtain rfl := h25; obtain rfl := h26; obtain rfl := h27; obtain rfl := h28; obtain rfl := h29; obtain rfl := h30; obtain rfl := h31; obtain rfl := h32; obtain rfl := h33; obtain rfl := h34; obtain rfl := h35
              have q3 := h3
              have q20 := h20
              simp only [Act.put, List.setIfInBounds_toArray, List.set_cons_zero, List.set_cons_succ] at hbf
              subst hbf
              replace Bx := Bx.below hb8
              replace Bg := Bg.below hb8
              replace Bh := Bh.below hb8
              replace kxs := kxs.below hb8
              replace kgs := kgs.below hb8
              replace khs := khs.below hb8
              replace kx := kx.below hb8
              replace kg := kg.below hb8
              replace kh := kh.below hb8
              replace k4 := k4.below hb8
              replace bb := bb.trans (hb8.mono bb.size)
              have hsz8 := bb.size
              refine any_done (by kernel_rfl) ?_
              go_wp2
              go_ret
              exact ⟨rfl, bb⟩
      · cases t with
        | nil =>
          have hgt : decide ((0 : Int) < ((T.size : Nat) : Int)) = false := by rw [List.length_nil] at hTs; exact decide_eq_false (by omega)
          go_upto_region 3 with (fail)
          refine flow 11 [Pd.eq (.string T), Pd.eq (.string T), Pd.eq (.int .i64 ((T.size : Nat) : Int)), Pd.eq (.bool false), Pd.eq (.bool false), Pd.any, Pd.any, Pd.any, Pd.eq (.bool false), Pd.eq (.string T), Pd.eq (.bool false)] (by kernel_rfl) (by kernel_rfl) ?ob6 ?done6
          case ob6 =>
            refine And.intro (ob_move rfl (wt_none rfl) (ev_far rfl rfl) (fun _ _ h => h)) ?_
            refine And.intro (ob_move rfl (wt_none rfl) (ev_far rfl rfl) (fun _ _ h => h)) ?_
            refine And.intro (ob_len rfl (wt_none rfl) (ev_dep (j := 1) (by kernel_rfl) rfl rfl) (fun _ _ hx => ⟨_, by rw [hx]; exact len_string Tryd.underlying9 _ _, rfl⟩)) ?_
            refine And.intro (ob_bin rfl (wt_none rfl) (ev_dep (j := 2) (by kernel_rfl) rfl rfl) (ev_const _) (fun _ _ _ hx hy => ⟨.bool false, by rw [hx, hy, bin_gtr_int, hgt], rfl⟩)) ?_
            refine And.intro (ob_move rfl (wt_none rfl) (ev_dep (j := 3) (by kernel_rfl) rfl rfl) (fun _ _ h => h)) ?_
            refine And.intro (ob_not (wt_dep (c := false) (b := true) (g := 4) rfl (by kernel_rfl) rfl rfl rfl (by exact fun _ _ h => h)) (fun _ => trivial) rfl) ?_
            refine And.intro (ob_not (wt_dep (c := false) (b := true) (g := 4) rfl (by kernel_rfl) rfl rfl rfl (by exact fun _ _ h => h)) (fun _ => trivial) rfl) ?_
            refine And.intro (ob_not (wt_dep (c := false) (b := true) (g := 4) rfl (by kernel_rfl) rfl rfl rfl (by exact fun _ _ h => h)) (fun _ => trivial) rfl) ?_
            refine And.intro (ob_pick (b := false) rfl (wt_none rfl) (ev_dep (j := 4) (by kernel_rfl) rfl rfl) (ev_const _) (fun _ _ h => h)) ?_
            refine And.intro (ob_assign rfl (wt_none rfl) (ev_dep (j := 0) (by kernel_rfl) rfl rfl) (fun _ _ h => h)) ?_
            refine And.intro (ob_assign rfl (wt_none rfl) (ev_dep (j := 8) (by kernel_rfl) rfl rfl) (fun _ _ h => h)) ?_
            trivial
          case done6 =>
            refine fun w5 hb5 v0 h0 v1 h1 v2 h2 v3 h3 v4 h4 v5 h5 v6 h6 v7 h7 v8 h8 v9 h9 v10 h10 b hbf => ?_
            obtain rfl := h0; obtain rfl := h1; obtain rfl := h2; obtain rfl := h3; obtain rfl := h4; obtain rfl := h8; obtain rfl := h9; obtain rfl := h10
            clear h5
            clear h6
            clear h7
            simp only [Act.put, List.setIfInBounds_toArray, List.set_cons_zero, List.set_cons_succ] at hbf
            subst hbf
            replace Bx := Bx.below hb5
            replace Bg := Bg.below hb5
            replace kxs := kxs.below hb5
            replace kgs := kgs.below hb5
            replace kx := kx.below hb5
            replace kg := kg.below hb5
            replace bb := bb.trans (hb5.mono bb.size)
            have hsz5 := bb.size
            refine any_done (by kernel_rfl) ?_
            go_wp2_with fail
            refine (rfrom_any _ _ _ 10 _ (HTm) (by first | omega | simp) rfl (by omega) (by omega)).mono ?_
            rintro e w40 ⟨y4, e4, g4, v4, rfl, k4, b4⟩
            obtain ⟨rfl, rfl⟩ := g4.one hF
            obtain ⟨A9, c9, rfl, _⟩ := id k4
            replace Bx := Bx.below b4
            replace Bg := Bg.below b4
            replace kxs := kxs.below b4
            replace kgs := kgs.below b4
            replace kx := kx.below b4
            replace kg := kg.below b4
            replace bb := bb.trans (b4.mono bb.size)
            have hsz5 := bb.size
            go_upto_region 7 with (fail)
            have lt5_2 := Blk.lt Bx
            have lt5_5 := Blk.lt Bg
            refine flowp 7 [Pd.eq (.agg #[.bool (ngB x), .slice A2 (digs 4294967296 (x).natAbs).length c2]), Pd.eq (.string (⟨(txtz x).toArray⟩ : ByteArray)), pzn (x) 0, pzn (x) 0, pi (x), Pd.eq (.int .i64 0), pn 25 #[.bool false, .slice none 0 0] w40.heap.size] (by kernel_rfl) ?ob7 ?done7
            case ob7 =>
              refine And.intro (ob_load rfl (wt_none rfl) (ev_far rfl rfl) (fun w2 hb => run_loadAll Tryd.underlying25 rfl (by kernel_rfl) (Bx.below hb)) (fun _ _ => rfl)) ?_
              refine And.intro (ob_call1 rfl Tryd.func38 (by kernel_rfl) (wt_none rfl) (ev_dep (j := 0) (by kernel_rfl) rfl rfl) (fun w2 u0 hb h0 => by obtain rfl := h0; exact (zprint_any _ x _ (kx.below hb) (Nat.le_trans lx (by decide))).mono fun e w3 h => RetStrB.pd h)) ?_
              refine And.intro (ob_call1 rfl Tryd.func36 (by kernel_rfl) (wt_none rfl) (ev_dep (j := 1) (by kernel_rfl) rfl rfl) (fun w2 u0 hb h0 => by obtain rfl := h0; exact parse7_print x _ (Nat.le_trans lx (by decide)))) ?_
              refine And.intro (ob_move rfl (wt_none rfl) (ev_dep (j := 2) (by kernel_rfl) rfl rfl) (fun _ _ h => h)) ?_
              refine And.intro (ob_extract rfl (wt_none rfl) (ev_dep (j := 3) (by kernel_rfl) rfl rfl) (fun w2 u hu => by obtain ⟨v, rfl, q1⟩ := hu; exact ⟨v, rfl, q1⟩)) ?_
              refine And.intro (ob_extract rfl (wt_none rfl) (ev_dep (j := 3) (by kernel_rfl) rfl rfl) (fun w2 u hu => by obtain ⟨v, rfl, q1⟩ := hu; exact ⟨_, rfl, rfl⟩)) ?_
              refine And.intro (ob_alloc (z := .agg #[.bool false, .slice none 0 0]) rfl rfl (fun _ => by kernel_rfl) (fun _ _ hB h => ⟨_, rfl, hB, h⟩)) ?_
              trivial
            case done7 =>
              refine fun w6 hb6 v0 h0 v1 h1 v2 h2 v3 h3 v4 h4 v5 h5 v6 h6 d6 b hbf => ?_
              obtain rfl := h0; obtain rfl := h1; obtain rfl := h5
              clear h2
              clear h3
              have q4 := h4
              obtain ⟨g6, rfl, hg6, B6⟩ := h6
              simp only [Act.put, List.setIfInBounds_toArray, List.set_cons_zero, List.set_cons_succ] at hbf
              subst hbf
              replace Bx := Bx.below hb6
              replace Bg := Bg.below hb6
              replace kxs := kxs.below hb6
              replace kgs := kgs.below hb6
              replace kx := kx.below hb6
              replace kg := kg.below hb6
              replace k4 := k4.below hb6
              replace bb := bb.trans (hb6.mono bb.size)
              have hsz6 := bb.size
              have BA11 := B6
              obtain ⟨u4, rfl, q4⟩ := q4
              obtain ⟨A11, c11, rfl, _⟩ := id q4
              refine ops_store (i := 7) rfl rfl rfl rfl rfl rfl (cells := [.bool (ngB x), .slice A11 (digs 4294967296 (x).natAbs).length c11]) rfl BA11 rfl (by kernel_rfl) (one2 rfl rfl) fun w7 hg7 BN7 => ?_
              replace q4 := off q4 BA11 no_ints2 hg7
              replace k4 := off k4 BA11 no_ints2 hg7
              replace kxs := off kxs BA11 no_ints2 hg7
              replace kx : IsZ w7 (.agg #[.bool (ngB x), .slice A2 (digs 4294967296 (x).natAbs).length c2]) (x) := ⟨_, rfl, kxs⟩
              replace Bx := Bx.grown hg7 (by omega)
              replace kgs := off kgs BA11 no_ints2 hg7
              replace kg : IsZ w7 (.agg #[.bool (ngB G), .slice A5 (digs 4294967296 (G).natAbs).length c5]) (G) := ⟨_, rfl, kgs⟩
              replace Bg := Bg.grown hg7 (by omega)
              replace bb := bb.trans ((Below.refl _ _).grown hg7 bb.size (fun g hg => by injection hg with hg; omega))
              have hsz7 := bb.size
              have Bh : Blk w7 (g6) _ _ := BN7
              have khs := q4
              have kh : IsZ w7 (.agg #[.bool (ngB x), .slice A11 (digs 4294967296 (x).natAbs).length c11]) (x) := ⟨_, rfl, khs⟩
              refine ops_assign (i := 8) (.int .i64 0) rfl rfl rfl rfl rfl fun b hbf => ?_
              simp only [Act.put, List.setIfInBounds_toArray, List.set_cons_zero, List.set_cons_succ] at hbf
              subst hbf
              refine ops_done ?_
              go_upto_region 8 with (fail)
              refine flow 36 [Pd.eq (.agg #[.bool (ngB x), .slice A2 (digs 4294967296 (x).natAbs).length c2]), Pd.eq (.string (⟨(txtz x).toArray⟩ : ByteArray)), Pd.eq (.agg #[.bool (ngB x), .slice A2 (digs 4294967296 (x).natAbs).length c2]), pr (x), Pd.eq (.string (⟨(txtz x).toArray⟩ : ByteArray)), Pd.eq (.bool true), Pd.eq (.bool true), Pd.eq (.int .i64 en), Pd.eq (.int .i64 en), Pd.eq (.bool true), Pd.eq (.bool true), Pd.eq (.bool true), Pd.eq (.agg #[.bool (ngB G), .slice A5 (digs 4294967296 (G).natAbs).length c5]), Pd.eq (.bool false), Pd.eq (.bool false), Pd.any, Pd.any, Pd.any, Pd.eq (.bool false), Pd.eq (.slice A9 (digs 4294967296 y).length c9), pi (G), Pd.eq (.bool true), Pd.eq (.bool true), Pd.eq (.bool true), Pd.eq (.int .i64 0), Pd.eq (.bool true), Pd.eq (.bool true), Pd.eq (.bool true), Pd.eq (.agg #[.bool (ngB x), .slice A11 (digs 4294967296 (x).natAbs).length c11]), Pd.eq (.agg #[.bool (ngB x), .slice A2 (digs 4294967296 (x).natAbs).length c2]), Pd.eq (.bool true), Pd.eq (.bool true), Pd.eq (.bool true), Pd.eq (.bool true), Pd.eq (.bool true), Pd.eq (.bool true)] (by kernel_rfl) (by kernel_rfl) ?ob8 ?done8
              case ob8 =>
                refine And.intro (ob_load rfl (wt_none rfl) (ev_far rfl rfl) (fun w2 hb => run_loadAll Tryd.underlying25 rfl (by kernel_rfl) (Bx.drew.below hb)) (fun _ _ => rfl)) ?_
                refine And.intro (ob_call1 rfl Tryd.func38 (by kernel_rfl) (wt_none rfl) (ev_dep (j := 0) (by kernel_rfl) rfl rfl) (fun w2 u0 hb h0 => by obtain rfl := h0; exact (zprint_any _ x _ (kx.drew.below hb) (Nat.le_trans lx (by decide))).mono fun e w3 h => RetStrB.pd h)) ?_
                refine And.intro (ob_load rfl (wt_none rfl) (ev_far rfl rfl) (fun w2 hb => run_loadAll Tryd.underlying25 rfl (by kernel_rfl) (Bx.drew.below hb)) (fun _ _ => rfl)) ?_
                refine And.intro (ob_call1 rfl Tryd.func9 (by kernel_rfl) (wt_none rfl) (ev_dep (j := 2) (by kernel_rfl) rfl rfl) (fun w2 u0 hb h0 => by obtain rfl := h0; exact (rof_any _ _ _ (kx.drew.below hb) (Nat.le_trans lx (by decide))).mono fun e w3 h => RetR.pd h)) ?_
                refine And.intro (ob_call1 rfl Tryd.func39 (by kernel_rfl) (wt_none rfl) (ev_dep (j := 3) (by kernel_rfl) rfl rfl) (fun w2 u0 hb h0 => by exact (rprint_any _ x _ h0 (dec_z (Nat.le_trans lx (by decide)))).mono fun e w3 h => RetStrB.pd h)) ?_
                refine And.intro (ob_bin rfl (wt_none rfl) (ev_dep (j := 1) (by kernel_rfl) rfl rfl) (ev_dep (j := 4) (by kernel_rfl) rfl rfl) (fun _ _ _ hx hy => ⟨.bool ((⟨(txtz x).toArray⟩ : ByteArray).toList == (⟨(txtz x).toArray⟩ : ByteArray).toList), by rw [hx, hy]; exact bin_eql_str _ _ _ _ _, congrArg Value.bool (beq_self_eq_true _)⟩)) ?_
                refine And.intro (ob_move rfl (wt_none rfl) (ev_dep (j := 5) (by kernel_rfl) rfl rfl) (fun _ _ h => h)) ?_
                refine And.intro (ob_move rfl (wt_dep (c := true) (b := true) (g := 6) rfl (by kernel_rfl) rfl rfl rfl (by exact fun _ _ h => h)) (ev_far rfl rfl) (fun _ _ h => h)) ?_
                refine And.intro (ob_move rfl (wt_dep (c := true) (b := true) (g := 6) rfl (by kernel_rfl) rfl rfl rfl (by exact fun _ _ h => h)) (ev_far rfl rfl) (fun _ _ h => h)) ?_
                refine And.intro (ob_bin rfl (wt_dep (c := true) (b := true) (g := 6) rfl (by kernel_rfl) rfl rfl rfl (by exact fun _ _ h => h)) (ev_dep (j := 7) (by kernel_rfl) rfl rfl) (ev_dep (j := 8) (by kernel_rfl) rfl rfl) (fun _ _ _ hx hy => ⟨.bool (en == en), by rw [hx, hy]; exact bin_eql_int _ _ _ _ _, congrArg Value.bool (beq_self_eq_true _)⟩)) ?_
                refine And.intro (ob_pick (b := true) rfl (wt_none rfl) (ev_dep (j := 6) (by kernel_rfl) rfl rfl) (ev_dep (j := 9) (by kernel_rfl) rfl rfl) (fun _ _ h => h)) ?_
                refine And.intro (ob_move rfl (wt_none rfl) (ev_dep (j := 10) (by kernel_rfl) rfl rfl) (fun _ _ h => h)) ?_
                refine And.intro (ob_load rfl (wt_dep (c := true) (b := true) (g := 11) rfl (by kernel_rfl) rfl rfl rfl (by exact fun _ _ h => h)) (ev_far rfl rfl) (fun w2 hb => run_loadAll Tryd.underlying25 rfl (by kernel_rfl) (Bg.drew.below hb)) (fun _ _ => rfl)) ?_
                refine And.intro (ob_move rfl (wt_dep (c := true) (b := true) (g := 11) rfl (by kernel_rfl) rfl rfl rfl (by exact fun _ _ h => h)) (ev_far rfl rfl) (fun _ _ h => h)) ?_
                refine And.intro (ob_move rfl (wt_dep (c := true) (b := true) (g := 11) rfl (by kernel_rfl) rfl rfl rfl (by exact fun _ _ h => h)) (ev_dep (j := 13) (by kernel_rfl) rfl rfl) (fun _ _ h => h)) ?_
                refine And.intro (ob_not (wt_dep (c := false) (b := true) (g := 14) rfl (by kernel_rfl) rfl rfl rfl (by exact fun _ _ h => h)) (fun _ => trivial) rfl) ?_
                refine And.intro (ob_not (wt_dep (c := false) (b := true) (g := 14) rfl (by kernel_rfl) rfl rfl rfl (by exact fun _ _ h => h)) (fun _ => trivial) rfl) ?_
                refine And.intro (ob_not (wt_dep (c := false) (b := true) (g := 14) rfl (by kernel_rfl) rfl rfl rfl (by exact fun _ _ h => h)) (fun _ => trivial) rfl) ?_
                refine And.intro (ob_pick (b := false) rfl (wt_dep (c := true) (b := true) (g := 11) rfl (by kernel_rfl) rfl rfl rfl (by exact fun _ _ h => h)) (ev_dep (j := 14) (by kernel_rfl) rfl rfl) (ev_const _) (fun _ _ h => h)) ?_
                refine And.intro (ob_move rfl (wt_dep (c := true) (b := true) (g := 11) rfl (by kernel_rfl) rfl rfl rfl (by exact fun _ _ h => h)) (ev_far rfl rfl) (fun _ _ h => h)) ?_
                refine And.intro (ob_build2b rfl (wt_dep (c := true) (b := true) (g := 11) rfl (by kernel_rfl) rfl rfl rfl (by exact fun _ _ h => h)) (ev_dep (j := 18) (by kernel_rfl) rfl rfl) (ev_dep (j := 19) (by kernel_rfl) rfl rfl) (fun w2 u v hb hu hv => by obtain rfl := hu; obtain rfl := hv; rw [HG.out]; exact ⟨_, by kernel_rfl, isZ_mk (k4.drew.below hb) (sg_abs _ _) (ngB_no y)⟩)) ?_
                refine And.intro (ob_call2 rfl Tryd.func10 (by kernel_rfl) (wt_dep (c := true) (b := true) (g := 11) rfl (by kernel_rfl) rfl rfl rfl (by exact fun _ _ h => h)) (ev_dep (j := 12) (by kernel_rfl) rfl rfl) (ev_dep (j := 20) (by kernel_rfl) rfl rfl) (fun w2 u0 u1 hb h0 h1 => by obtain rfl := h0; exact (zsame_eq _ _ (G) (G) _ (kg.drew.below hb) h1 rfl).mono fun e w3 h => RetV.pd h)) ?_
                refine And.intro (ob_pick (b := true) rfl (wt_none rfl) (ev_dep (j := 11) (by kernel_rfl) rfl rfl) (ev_dep (j := 21) (by kernel_rfl) rfl rfl) (fun _ _ h => h)) ?_
                refine And.intro (ob_move rfl (wt_none rfl) (ev_dep (j := 22) (by kernel_rfl) rfl rfl) (fun _ _ h => h)) ?_
                refine And.intro (ob_move rfl (wt_dep (c := true) (b := true) (g := 23) rfl (by kernel_rfl) rfl rfl rfl (by exact fun _ _ h => h)) (ev_far rfl rfl) (fun _ _ h => h)) ?_
                refine And.intro (ob_bin rfl (wt_dep (c := true) (b := true) (g := 23) rfl (by kernel_rfl) rfl rfl rfl (by exact fun _ _ h => h)) (ev_dep (j := 24) (by kernel_rfl) rfl rfl) (ev_const _) (fun _ _ _ hx hy => ⟨.bool ((0 : Int) == 0), by rw [hx, hy]; exact bin_eql_int _ _ _ _ _, congrArg Value.bool (by decide)⟩)) ?_
                refine And.intro (ob_pick (b := true) rfl (wt_none rfl) (ev_dep (j := 23) (by kernel_rfl) rfl rfl) (ev_dep (j := 25) (by kernel_rfl) rfl rfl) (fun _ _ h => h)) ?_
                refine And.intro (ob_move rfl (wt_none rfl) (ev_dep (j := 26) (by kernel_rfl) rfl rfl) (fun _ _ h => h)) ?_
                refine And.intro (ob_load rfl (wt_dep (c := true) (b := true) (g := 27) rfl (by kernel_rfl) rfl rfl rfl (by exact fun _ _ h => h)) (ev_far rfl rfl) (fun w2 hb => run_loadAll Tryd.underlying25 rfl (by kernel_rfl) (Bh.drew.below hb)) (fun _ _ => rfl)) ?_
                refine And.intro (ob_load rfl (wt_dep (c := true) (b := true) (g := 27) rfl (by kernel_rfl) rfl rfl rfl (by exact fun _ _ h => h)) (ev_far rfl rfl) (fun w2 hb => run_loadAll Tryd.underlying25 rfl (by kernel_rfl) (Bx.drew.below hb)) (fun _ _ => rfl)) ?_
                refine And.intro (ob_call2 rfl Tryd.func10 (by kernel_rfl) (wt_dep (c := true) (b := true) (g := 27) rfl (by kernel_rfl) rfl rfl rfl (by exact fun _ _ h => h)) (ev_dep (j := 28) (by kernel_rfl) rfl rfl) (ev_dep (j := 29) (by kernel_rfl) rfl rfl) (fun w2 u0 u1 hb h0 h1 => by obtain rfl := h0; obtain rfl := h1; exact (zsame_eq _ _ (x) (x) _ (kh.drew.below hb) (kx.drew.below hb) rfl).mono fun e w3 h => RetV.pd h)) ?_
                refine And.intro (ob_pick (b := true) rfl (wt_none rfl) (ev_dep (j := 27) (by kernel_rfl) rfl rfl) (ev_dep (j := 30) (by kernel_rfl) rfl rfl) (fun _ _ h => h)) ?_
                refine And.intro (ob_move rfl (wt_none rfl) (ev_dep (j := 31) (by kernel_rfl) rfl rfl) (fun _ _ h => h)) ?_
                refine And.intro (ob_call0 rfl Tryd.func24 (by kernel_rfl) (wt_dep (c := true) (b := true) (g := 32) rfl (by kernel_rfl) rfl rfl rfl (by exact fun _ _ h => h)) (fun w2 hb => (works7_any _).mono fun e w3 h => RetV.pd h)) ?_
                refine And.intro (ob_pick (b := true) rfl (wt_none rfl) (ev_dep (j := 32) (by kernel_rfl) rfl rfl) (ev_dep (j := 33) (by kernel_rfl) rfl rfl) (fun _ _ h => h)) ?_
                refine And.intro (ob_assign rfl (wt_none rfl) (ev_dep (j := 34) (by kernel_rfl) rfl rfl) (fun _ _ h => h)) ?_
                trivial
              case done8 =>
                refine fun w8 hb8 v0 h0 v1 h1 v2 h2 v3 h3 v4 h4 v5 h5 v6 h6 v7 h7 v8 h8 v9 h9 v10 h10 v11 h11 v12 h12 v13 h13 v14 h14 v15 h15 v16 h16 v17 h17 v18 h18 v19 h19 v20 h20 v21 h21 v22 h22 v23 h23 v24 h24 v25 h25 v26 h26 v27 h27 v28 h28 v29 h29 v30 h30 v31 h31 v32 h32 v33 h33 v34 h34 v35 h35 b hbf => ?_
                obtain rfl := h0; obtain rfl := h1; obtain rfl := h2; obtain rfl := h4; obtain rfl := h5; obtain rfl := h6; obtain rfl := h7; obtain rfl := h8; obtain rfl := h9; obtain rfl := h10; obtain rfl := h11; obtain rfl := h12; obtain rfl := h13; obtain rfl := h14; obtain rfl := h18; obtain rfl := h19; obtain rfl := h21; obtain rfl := h22; obtain rfl := h23; obtain rfl := h24; obtain rfl := h25; obtain rfl := h26; obtain rfl := h27; obtain rfl := h28; obtain rfl := h29; obtain rfl := h30; obtain rfl := h31; obtain rfl := h32; obtain rfl := h33; obtain rfl := h34; obtain rfl := h35
                have q3 := h3
                clear h15
                clear h16
                clear h17
                have q20 := h20
                simp only [Act.put, List.setIfInBounds_toArray, List.set_cons_zero, List.set_cons_succ] at hbf
                subst hbf
                replace Bx := Bx.below hb8
                replace Bg := Bg.below hb8
                replace Bh := Bh.below hb8
                replace kxs := kxs.below hb8
                replace kgs := kgs.below hb8
                replace khs := khs.below hb8
                replace kx := kx.below hb8
                replace kg := kg.below hb8
                replace kh := kh.below hb8
                replace k4 := k4.below hb8
                replace bb := bb.trans (hb8.mono bb.size)
                have hsz8 := bb.size
                refine any_done (by kernel_rfl) ?_
                go_wp2
                go_ret
                exact ⟨rfl, bb⟩
        | cons c t' =>
          have hgt : decide ((0 : Int) < ((T.size : Nat) : Int)) = true := by rw [List.length_cons] at hTs; exact decide_eq_true (by omega)
          have hc45 : ((((c.toNat : Nat) : Int)) == 45) = false := by
            rw [beq_eq_false_iff_ne]
            intro e
            exact hh (by show some c = some 45; congr 1; exact UInt8.toNat_inj.1 (by show c.toNat = 45; omega))
          go_upto_region 3 with (fail)
          refine flow 11 [Pd.eq (.string T), Pd.eq (.string T), Pd.eq (.int .i64 ((T.size : Nat) : Int)), Pd.eq (.bool true), Pd.eq (.bool true), Pd.eq (.string T), Pd.eq (.int .u8 ((c.toNat : Nat) : Int)), Pd.eq (.bool false), Pd.eq (.bool false), Pd.eq (.string T), Pd.eq (.bool false)] (by kernel_rfl) (by kernel_rfl) ?ob9 ?done9
          case ob9 =>
            refine And.intro (ob_move rfl (wt_none rfl) (ev_far rfl rfl) (fun _ _ h => h)) ?_
            refine And.intro (ob_move rfl (wt_none rfl) (ev_far rfl rfl) (fun _ _ h => h)) ?_
            refine And.intro (ob_len rfl (wt_none rfl) (ev_dep (j := 1) (by kernel_rfl) rfl rfl) (fun _ _ hx => ⟨_, by rw [hx]; exact len_string Tryd.underlying9 _ _, rfl⟩)) ?_
            refine And.intro (ob_bin rfl (wt_none rfl) (ev_dep (j := 2) (by kernel_rfl) rfl rfl) (ev_const _) (fun _ _ _ hx hy => ⟨.bool true, by rw [hx, hy, bin_gtr_int, hgt], rfl⟩)) ?_
            refine And.intro (ob_move rfl (wt_none rfl) (ev_dep (j := 3) (by kernel_rfl) rfl rfl) (fun _ _ h => h)) ?_
            refine And.intro (ob_move rfl (wt_dep (c := true) (b := true) (g := 4) rfl (by kernel_rfl) rfl rfl rfl (by exact fun _ _ h => h)) (ev_far rfl rfl) (fun _ _ h => h)) ?_
            refine And.intro (ob_index rfl (wt_dep (c := true) (b := true) (g := 4) rfl (by kernel_rfl) rfl rfl rfl (by exact fun _ _ h => h)) (ev_dep (j := 5) (by kernel_rfl) rfl rfl) (ev_const _) (fun _ _ _ hx hy => ⟨.int .u8 ((c.toNat : Nat) : Int), by rw [hx, hy]; exact index_head Tryd.underlying9 HTm _, rfl⟩)) ?_
            refine And.intro (ob_bin rfl (wt_dep (c := true) (b := true) (g := 4) rfl (by kernel_rfl) rfl rfl rfl (by exact fun _ _ h => h)) (ev_dep (j := 6) (by kernel_rfl) rfl rfl) (ev_const _) (fun _ _ _ hx hy => ⟨.bool false, by rw [hx, hy, bin_eql_int, hc45], rfl⟩)) ?_
            refine And.intro (ob_pick (b := true) rfl (wt_none rfl) (ev_dep (j := 4) (by kernel_rfl) rfl rfl) (ev_dep (j := 7) (by kernel_rfl) rfl rfl) (fun _ _ h => h)) ?_
            refine And.intro (ob_assign rfl (wt_none rfl) (ev_dep (j := 0) (by kernel_rfl) rfl rfl) (fun _ _ h => h)) ?_
            refine And.intro (ob_assign rfl (wt_none rfl) (ev_dep (j := 8) (by kernel_rfl) rfl rfl) (fun _ _ h => h)) ?_
            trivial
          case done9 =>
            refine fun w5 hb5 v0 h0 v1 h1 v2 h2 v3 h3 v4 h4 v5 h5 v6 h6 v7 h7 v8 h8 v9 h9 v10 h10 b hbf => ?_
            obtain rfl := h0; obtain rfl := h1; obtain rfl := h2; obtain rfl := h3; obtain rfl := h4; obtain rfl := h5; obtain rfl := h6; obtain rfl := h7; obtain rfl := h8; obtain rfl := h9; obtain rfl := h10
            simp only [Act.put, List.setIfInBounds_toArray, List.set_cons_zero, List.set_cons_succ] at hbf
            subst hbf
            replace Bx := Bx.below hb5
            replace Bg := Bg.below hb5
            replace kxs := kxs.below hb5
            replace kgs := kgs.below hb5
            replace kx := kx.below hb5
            replace kg := kg.below hb5
            replace bb := bb.trans (hb5.mono bb.size)
            have hsz5 := bb.size
            refine any_done (by kernel_rfl) ?_
            go_wp2_with fail
            refine (rfrom_any _ _ _ 10 _ (HTm) (by first | omega | simp) rfl (by omega) (by omega)).mono ?_
            rintro e w40 ⟨y4, e4, g4, v4, rfl, k4, b4⟩
            obtain ⟨rfl, rfl⟩ := g4.one hF
            obtain ⟨A9, c9, rfl, _⟩ := id k4
            replace Bx := Bx.below b4
            replace Bg := Bg.below b4
            replace kxs := kxs.below b4
            replace kgs := kgs.below b4
            replace kx := kx.below b4
            replace kg := kg.below b4
            replace bb := bb.trans (b4.mono bb.size)
            have hsz5 := bb.size
            go_upto_region 7 with (fail)
            have lt5_2 := Blk.lt Bx
            have lt5_5 := Blk.lt Bg
            refine flowp 7 [Pd.eq (.agg #[.bool (ngB x), .slice A2 (digs 4294967296 (x).natAbs).length c2]), Pd.eq (.string (⟨(txtz x).toArray⟩ : ByteArray)), pzn (x) 0, pzn (x) 0, pi (x), Pd.eq (.int .i64 0), pn 25 #[.bool false, .slice none 0 0] w40.heap.size] (by kernel_rfl) ?ob10 ?done10
            case ob10 =>
              refine And.intro (ob_load rfl (wt_none rfl) (ev_far rfl rfl) (fun w2 hb => run_loadAll Tryd.underlying25 rfl (by kernel_rfl) (Bx.below hb)) (fun _ _ => rfl)) ?_
              refine And.intro (ob_call1 rfl Tryd.func38 (by kernel_rfl) (wt_none rfl) (ev_dep (j := 0) (by kernel_rfl) rfl rfl) (fun w2 u0 hb h0 => by obtain rfl := h0; exact (zprint_any _ x _ (kx.below hb) (Nat.le_trans lx (by decide))).mono fun e w3 h => RetStrB.pd h)) ?_
              refine And.intro (ob_call1 rfl Tryd.func36 (by kernel_rfl) (wt_none rfl) (ev_dep (j := 1) (by kernel_rfl) rfl rfl) (fun w2 u0 hb h0 => by obtain rfl := h0; exact parse7_print x _ (Nat.le_trans lx (by decide)))) ?_
              refine And.intro (ob_move rfl (wt_none rfl) (ev_dep (j := 2) (by kernel_rfl) rfl rfl) (fun _ _ h => h)) ?_
              refine And.intro (ob_extract rfl (wt_none rfl) (ev_dep (j := 3) (by kernel_rfl) rfl rfl) (fun w2 u hu => by obtain ⟨v, rfl, q1⟩ := hu; exact ⟨v, rfl, q1⟩)) ?_
              refine And.intro (ob_extract rfl (wt_none rfl) (ev_dep (j := 3) (by kernel_rfl) rfl rfl) (fun w2 u hu => by obtain ⟨v, rfl, q1⟩ := hu; exact ⟨_, rfl, rfl⟩)) ?_
              refine And.intro (ob_alloc (z := .agg #[.bool false, .slice none 0 0]) rfl rfl (fun _ => by kernel_rfl) (fun _ _ hB h => ⟨_, rfl, hB, h⟩)) ?_
              trivial
            case done10 =>
              refine fun w6 hb6 v0 h0 v1 h1 v2 h2 v3 h3 v4 h4 v5 h5 v6 h6 d6 b hbf => ?_
              obtain rfl := h0; obtain rfl := h1; obtain rfl := h5
              clear h2
              clear h3
              have q4 := h4
              obtain ⟨g6, rfl, hg6, B6⟩ := h6
              simp only [Act.put, List.setIfInBounds_toArray, List.set_cons_zero, List.set_cons_succ] at hbf
              subst hbf
              replace Bx := Bx.below hb6
              replace Bg := Bg.below hb6
              replace kxs := kxs.below hb6
              replace kgs := kgs.below hb6
              replace kx := kx.below hb6
              replace kg := kg.below hb6
              replace k4 := k4.below hb6
              replace bb := bb.trans (hb6.mono bb.size)
              have hsz6 := bb.size
              have BA11 := B6
              obtain ⟨u4, rfl, q4⟩ := q4
              obtain ⟨A11, c11, rfl, _⟩ := id q4
              refine ops_store (i := 7) rfl rfl rfl rfl rfl rfl (cells := [.bool (ngB x), .slice A11 (digs 4294967296 (x).natAbs).length c11]) rfl BA11 rfl (by kernel_rfl) (one2 rfl rfl) fun w7 hg7 BN7 => ?_
              replace q4 := off q4 BA11 no_ints2 hg7
              replace k4 := off k4 BA11 no_ints2 hg7
              replace kxs := off kxs BA11 no_ints2 hg7
              replace kx : IsZ w7 (.agg #[.bool (ngB x), .slice A2 (digs 4294967296 (x).natAbs).length c2]) (x) := ⟨_, rfl, kxs⟩
              replace Bx := Bx.grown hg7 (by omega)
              replace kgs := off kgs BA11 no_ints2 hg7
              replace kg : IsZ w7 (.agg #[.bool (ngB G), .slice A5 (digs 4294967296 (G).natAbs).length c5]) (G) := ⟨_, rfl, kgs⟩
              replace Bg := Bg.grown hg7 (by omega)
              replace bb := bb.trans ((Below.refl _ _).grown hg7 bb.size (fun g hg => by injection hg with hg; omega))
              have hsz7 := bb.size
              have Bh : Blk w7 (g6) _ _ := BN7
              have khs := q4
              have kh : IsZ w7 (.agg #[.bool (ngB x), .slice A11 (digs 4294967296 (x).natAbs).length c11]) (x) := ⟨_, rfl, khs⟩
              refine ops_assign (i := 8) (.int .i64 0) rfl rfl rfl rfl rfl fun b hbf => ?_
              simp only [Act.put, List.setIfInBounds_toArray, List.set_cons_zero, List.set_cons_succ] at hbf
              subst hbf
              refine ops_done ?_
              go_upto_region 8 with (fail)
              refine flow 36 [Pd.eq (.agg #[.bool (ngB x), .slice A2 (digs 4294967296 (x).natAbs).length c2]), Pd.eq (.string (⟨(txtz x).toArray⟩ : ByteArray)), Pd.eq (.agg #[.bool (ngB x), .slice A2 (digs 4294967296 (x).natAbs).length c2]), pr (x), Pd.eq (.string (⟨(txtz x).toArray⟩ : ByteArray)), Pd.eq (.bool true), Pd.eq (.bool true), Pd.eq (.int .i64 en), Pd.eq (.int .i64 en), Pd.eq (.bool true), Pd.eq (.bool true), Pd.eq (.bool true), Pd.eq (.agg #[.bool (ngB G), .slice A5 (digs 4294967296 (G).natAbs).length c5]), Pd.eq (.bool false), Pd.eq (.bool false), Pd.any, Pd.any, Pd.any, Pd.eq (.bool false), Pd.eq (.slice A9 (digs 4294967296 y).length c9), pi (G), Pd.eq (.bool true), Pd.eq (.bool true), Pd.eq (.bool true), Pd.eq (.int .i64 0), Pd.eq (.bool true), Pd.eq (.bool true), Pd.eq (.bool true), Pd.eq (.agg #[.bool (ngB x), .slice A11 (digs 4294967296 (x).natAbs).length c11]), Pd.eq (.agg #[.bool (ngB x), .slice A2 (digs 4294967296 (x).natAbs).length c2]), Pd.eq (.bool true), Pd.eq (.bool true), Pd.eq (.bool true), Pd.eq (.bool true), Pd.eq (.bool true), Pd.eq (.bool true)] (by kernel_rfl) (by kernel_rfl) ?ob11 ?done11
              case ob11 =>
                refine And.intro (ob_load rfl (wt_none rfl) (ev_far rfl rfl) (fun w2 hb => run_loadAll Tryd.underlying25 rfl (by kernel_rfl) (Bx.drew.below hb)) (fun _ _ => rfl)) ?_
                refine And.intro (ob_call1 rfl Tryd.func38 (by kernel_rfl) (wt_none rfl) (ev_dep (j := 0) (by kernel_rfl) rfl rfl) (fun w2 u0 hb h0 => by obtain rfl := h0; exact (zprint_any _ x _ (kx.drew.below hb) (Nat.le_trans lx (by decide))).mono fun e w3 h => RetStrB.pd h)) ?_
                refine And.intro (ob_load rfl (wt_none rfl) (ev_far rfl rfl) (fun w2 hb => run_loadAll Tryd.underlying25 rfl (by kernel_rfl) (Bx.drew.below hb)) (fun _ _ => rfl)) ?_
                refine And.intro (ob_call1 rfl Tryd.func9 (by kernel_rfl) (wt_none rfl) (ev_dep (j := 2) (by kernel_rfl) rfl rfl) (fun w2 u0 hb h0 => by obtain rfl := h0; exact (rof_any _ _ _ (kx.drew.below hb) (Nat.le_trans lx (by decide))).mono fun e w3 h => RetR.pd h)) ?_
                refine And.intro (ob_call1 rfl Tryd.func39 (by kernel_rfl) (wt_none rfl) (ev_dep (j := 3) (by kernel_rfl) rfl rfl) (fun w2 u0 hb h0 => by exact (rprint_any _ x _ h0 (dec_z (Nat.le_trans lx (by decide)))).mono fun e w3 h => RetStrB.pd h)) ?_
                refine And.intro (ob_bin rfl (wt_none rfl) (ev_dep (j := 1) (by kernel_rfl) rfl rfl) (ev_dep (j := 4) (by kernel_rfl) rfl rfl) (fun _ _ _ hx hy => ⟨.bool ((⟨(txtz x).toArray⟩ : ByteArray).toList == (⟨(txtz x).toArray⟩ : ByteArray).toList), by rw [hx, hy]; exact bin_eql_str _ _ _ _ _, congrArg Value.bool (beq_self_eq_true _)⟩)) ?_
                refine And.intro (ob_move rfl (wt_none rfl) (ev_dep (j := 5) (by kernel_rfl) rfl rfl) (fun _ _ h => h)) ?_
                refine And.intro (ob_move rfl (wt_dep (c := true) (b := true) (g := 6) rfl (by kernel_rfl) rfl rfl rfl (by exact fun _ _ h => h)) (ev_far rfl rfl) (fun _ _ h => h)) ?_
                refine And.intro (ob_move rfl (wt_dep (c := true) (b := true) (g := 6) rfl (by kernel_rfl) rfl rfl rfl (by exact fun _ _ h => h)) (ev_far rfl rfl) (fun _ _ h => h)) ?_
                refine And.intro (ob_bin rfl (wt_dep (c := true) (b := true) (g := 6) rfl (by kernel_rfl) rfl rfl rfl (by exact fun _ _ h => h)) (ev_dep (j := 7) (by kernel_rfl) rfl rfl) (ev_dep (j := 8) (by kernel_rfl) rfl rfl) (fun _ _ _ hx hy => ⟨.bool (en == en), by rw [hx, hy]; exact bin_eql_int _ _ _ _ _, congrArg Value.bool (beq_self_eq_true _)⟩)) ?_
                refine And.intro (ob_pick (b := true) rfl (wt_none rfl) (ev_dep (j := 6) (by kernel_rfl) rfl rfl) (ev_dep (j := 9) (by kernel_rfl) rfl rfl) (fun _ _ h => h)) ?_
                refine And.intro (ob_move rfl (wt_none rfl) (ev_dep (j := 10) (by kernel_rfl) rfl rfl) (fun _ _ h => h)) ?_
                refine And.intro (ob_load rfl (wt_dep (c := true) (b := true) (g := 11) rfl (by kernel_rfl) rfl rfl rfl (by exact fun _ _ h => h)) (ev_far rfl rfl) (fun w2 hb => run_loadAll Tryd.underlying25 rfl (by kernel_rfl) (Bg.drew.below hb)) (fun _ _ => rfl)) ?_
                refine And.intro (ob_move rfl (wt_dep (c := true) (b := true) (g := 11) rfl (by kernel_rfl) rfl rfl rfl (by exact fun _ _ h => h)) (ev_far rfl rfl) (fun _ _ h => h)) ?_
                refine And.intro (ob_move rfl (wt_dep (c := true) (b := true) (g := 11) rfl (by kernel_rfl) rfl rfl rfl (by exact fun _ _ h => h)) (ev_dep (j := 13) (by kernel_rfl) rfl rfl) (fun _ _ h => h)) ?_
                refine And.intro (ob_not (wt_dep (c := false) (b := true) (g := 14) rfl (by kernel_rfl) rfl rfl rfl (by exact fun _ _ h => h)) (fun _ => trivial) rfl) ?_
                refine And.intro (ob_not (wt_dep (c := false) (b := true) (g := 14) rfl (by kernel_rfl) rfl rfl rfl (by exact fun _ _ h => h)) (fun _ => trivial) rfl) ?_
                refine And.intro (ob_not (wt_dep (c := false) (b := true) (g := 14) rfl (by kernel_rfl) rfl rfl rfl (by exact fun _ _ h => h)) (fun _ => trivial) rfl) ?_
                refine And.intro (ob_pick (b := false) rfl (wt_dep (c := true) (b := true) (g := 11) rfl (by kernel_rfl) rfl rfl rfl (by exact fun _ _ h => h)) (ev_dep (j := 14) (by kernel_rfl) rfl rfl) (ev_const _) (fun _ _ h => h)) ?_
                refine And.intro (ob_move rfl (wt_dep (c := true) (b := true) (g := 11) rfl (by kernel_rfl) rfl rfl rfl (by exact fun _ _ h => h)) (ev_far rfl rfl) (fun _ _ h => h)) ?_
                refine And.intro (ob_build2b rfl (wt_dep (c := true) (b := true) (g := 11) rfl (by kernel_rfl) rfl rfl rfl (by exact fun _ _ h => h)) (ev_dep (j := 18) (by kernel_rfl) rfl rfl) (ev_dep (j := 19) (by kernel_rfl) rfl rfl) (fun w2 u v hb hu hv => by obtain rfl := hu; obtain rfl := hv; rw [HG.out]; exact ⟨_, by kernel_rfl, isZ_mk (k4.drew.below hb) (sg_abs _ _) (ngB_no y)⟩)) ?_
                refine And.intro (ob_call2 rfl Tryd.func10 (by kernel_rfl) (wt_dep (c := true) (b := true) (g := 11) rfl (by kernel_rfl) rfl rfl rfl (by exact fun _ _ h => h)) (ev_dep (j := 12) (by kernel_rfl) rfl rfl) (ev_dep (j := 20) (by kernel_rfl) rfl rfl) (fun w2 u0 u1 hb h0 h1 => by obtain rfl := h0; exact (zsame_eq _ _ (G) (G) _ (kg.drew.below hb) h1 rfl).mono fun e w3 h => RetV.pd h)) ?_
                refine And.intro (ob_pick (b := true) rfl (wt_none rfl) (ev_dep (j := 11) (by kernel_rfl) rfl rfl) (ev_dep (j := 21) (by kernel_rfl) rfl rfl) (fun _ _ h => h)) ?_
                refine And.intro (ob_move rfl (wt_none rfl) (ev_dep (j := 22) (by kernel_rfl) rfl rfl) (fun _ _ h => h)) ?_
                refine And.intro (ob_move rfl (wt_dep (c := true) (b := true) (g := 23) rfl (by kernel_rfl) rfl rfl rfl (by exact fun _ _ h => h)) (ev_far rfl rfl) (fun _ _ h => h)) ?_
                refine And.intro (ob_bin rfl (wt_dep (c := true) (b := true) (g := 23) rfl (by kernel_rfl) rfl rfl rfl (by exact fun _ _ h => h)) (ev_dep (j := 24) (by kernel_rfl) rfl rfl) (ev_const _) (fun _ _ _ hx hy => ⟨.bool ((0 : Int) == 0), by rw [hx, hy]; exact bin_eql_int _ _ _ _ _, congrArg Value.bool (by decide)⟩)) ?_
                refine And.intro (ob_pick (b := true) rfl (wt_none rfl) (ev_dep (j := 23) (by kernel_rfl) rfl rfl) (ev_dep (j := 25) (by kernel_rfl) rfl rfl) (fun _ _ h => h)) ?_
                refine And.intro (ob_move rfl (wt_none rfl) (ev_dep (j := 26) (by kernel_rfl) rfl rfl) (fun _ _ h => h)) ?_
                refine And.intro (ob_load rfl (wt_dep (c := true) (b := true) (g := 27) rfl (by kernel_rfl) rfl rfl rfl (by exact fun _ _ h => h)) (ev_far rfl rfl) (fun w2 hb => run_loadAll Tryd.underlying25 rfl (by kernel_rfl) (Bh.drew.below hb)) (fun _ _ => rfl)) ?_
                refine And.intro (ob_load rfl (wt_dep (c := true) (b := true) (g := 27) rfl (by kernel_rfl) rfl rfl rfl (by exact fun _ _ h => h)) (ev_far rfl rfl) (fun w2 hb => run_loadAll Tryd.underlying25 rfl (by kernel_rfl) (Bx.drew.below hb)) (fun _ _ => rfl)) ?_
                refine And.intro (ob_call2 rfl Tryd.func10 (by kernel_rfl) (wt_dep (c := true) (b := true) (g := 27) rfl (by kernel_rfl) rfl rfl rfl (by exact fun _ _ h => h)) (ev_dep (j := 28) (by kernel_rfl) rfl rfl) (ev_dep (j := 29) (by kernel_rfl) rfl rfl) (fun w2 u0 u1 hb h0 h1 => by obtain rfl := h0; obtain rfl := h1; exact (zsame_eq _ _ (x) (x) _ (kh.drew.below hb) (kx.drew.below hb) rfl).mono fun e w3 h => RetV.pd h)) ?_
                refine And.intro (ob_pick (b := true) rfl (wt_none rfl) (ev_dep (j := 27) (by kernel_rfl) rfl rfl) (ev_dep (j := 30) (by kernel_rfl) rfl rfl) (fun _ _ h => h)) ?_
                refine And.intro (ob_move rfl (wt_none rfl) (ev_dep (j := 31) (by kernel_rfl) rfl rfl) (fun _ _ h => h)) ?_
                refine And.intro (ob_call0 rfl Tryd.func24 (by kernel_rfl) (wt_dep (c := true) (b := true) (g := 32) rfl (by kernel_rfl) rfl rfl rfl (by exact fun _ _ h => h)) (fun w2 hb => (works7_any _).mono fun e w3 h => RetV.pd h)) ?_
                refine And.intro (ob_pick (b := true) rfl (wt_none rfl) (ev_dep (j := 32) (by kernel_rfl) rfl rfl) (ev_dep (j := 33) (by kernel_rfl) rfl rfl) (fun _ _ h => h)) ?_
                refine And.intro (ob_assign rfl (wt_none rfl) (ev_dep (j := 34) (by kernel_rfl) rfl rfl) (fun _ _ h => h)) ?_
                trivial
              case done11 =>
                refine fun w8 hb8 v0 h0 v1 h1 v2 h2 v3 h3 v4 h4 v5 h5 v6 h6 v7 h7 v8 h8 v9 h9 v10 h10 v11 h11 v12 h12 v13 h13 v14 h14 v15 h15 v16 h16 v17 h17 v18 h18 v19 h19 v20 h20 v21 h21 v22 h22 v23 h23 v24 h24 v25 h25 v26 h26 v27 h27 v28 h28 v29 h29 v30 h30 v31 h31 v32 h32 v33 h33 v34 h34 v35 h35 b hbf => ?_
                obtain rfl := h0; obtain rfl := h1; obtain rfl := h2; obtain rfl := h4; obtain rfl := h5; obtain rfl := h6; obtain rfl := h7; obtain rfl := h8; obtain rfl := h9; obtain rfl := h10; obtain rfl := h11; obtain rfl := h12; obtain rfl := h13; obtain rfl := h14; obtain rfl := h18; obtain rfl := h19; obtain rfl := h21; obtain rfl := h22; obtain rfl := h23; obtain rfl := h24; obtain rfl := h25; obtain rfl := h26; obtain rfl := h27; obtain rfl := h28; obtain rfl := h29; obtain rfl := h30; obtain rfl := h31; obtain rfl := h32; obtain rfl := h33; obtain rfl := h34; obtain rfl := h35
                have q3 := h3
                clear h15
                clear h16
                clear h17
                have q20 := h20
                simp only [Act.put, List.setIfInBounds_toArray, List.set_cons_zero, List.set_cons_succ] at hbf
                subst hbf
                replace Bx := Bx.below hb8
                replace Bg := Bg.below hb8
                replace Bh := Bh.below hb8
                replace kxs := kxs.below hb8
                replace kgs := kgs.below hb8
                replace khs := khs.below hb8
                replace kx := kx.below hb8
                replace kg := kg.below hb8
                replace kh := kh.below hb8
                replace k4 := k4.below hb8
                replace bb := bb.trans (hb8.mono bb.size)
                have hsz8 := bb.size
                refine any_done (by kernel_rfl) ?_
                go_wp2
                go_ret
                exact ⟨rfl, bb⟩

set_option maxRecDepth 100000 in
theorem lifted (os : Os) (started : os.Started) (H : Type) (enc : TypeId × Value → H) :
    ReturnsInHanded {} Tryd.checked os 6 .any (fun w args => (Rows.wholeTextsSpec.pre enc Tryd.prog Tryd.f6 Rows.wholeTextsRow.domain false w args ∧ laidMetH Tryd.prog Rows.wholeTextsRow.laid w) ∧ sizedMet enc Tryd.prog Tryd.f6 (OpenSpec.ofChange Rows.wholeTextsSpec) false w args)
      (Rows.wholeTextsSpec.post enc Tryd.prog Tryd.f6 false true false false) := by
  refine returnsInHanded_of_change_and (C := Tryd.checked) (X := fun w _ => laidMetH Tryd.prog Rows.wholeTextsRow.laid w) (fun _ _ _ hh h => h.of_heap hh) own started (by kernel_rfl) Tryd.func6
    (ChangeSpec.witness_shaped (enc := enc) (C := Tryd.checked) (os := os) (X := fun w _ => laidMetH Tryd.prog Rows.wholeTextsRow.laid w) false (World.laidAll Tryd.prog os Rows.wholeTextsRow.laid) #[.agg #[.bool false, .slice none 0 0], .string ⟨#[]⟩] 8 (World.laidAll_os _ _ _)
      (World.shaped_of_ZipB (by kernel_rfl) (by kernel_rfl)) (by kernel_rfl) (by kernel_rfl) (by kernel_rfl)
      (by rw [MakeChecks.laidMetH_plain _ _ _ (by kernel_rfl)]; exact laidMet_laidAll _ (by kernel_rfl) (by kernel_rfl))) ?_
  intro W base args ds gs before hval0 hW hcnd _ hL _
  have hval : ∀ (j : Nat) t v, Tryd.f6.params[j]? = some t → args[j]? = some v → Value.okWide Tryd.prog W .any base t v := hval0
  have hW' := hW
  obtain ⟨p, q, hA0, hV, rfl, hfz, hnd⟩ := hW
  have hA : DataW.TrodAll enc Tryd.prog W 0 (fun _ => true) true Tryd.f6.params.toList args.toList ds p := hA0
  rw [Tryd.params6] at hA hval
  obtain ⟨v0, vs0, d0, ds0, p0, q0, hargs, rfl, rfl, t0, r0⟩ := trodAll_cons hA
  obtain ⟨v1, vs1, d1, ds1, p1, q1, rfl, rfl, rfl, t1, r1⟩ := trodAll_cons r0
  obtain ⟨rfl, rfl, rfl⟩ := trodAll_nil r1
  obtain rfl : args = #[v0, v1] := by cases args; simp_all
  obtain ⟨rfl, rfl⟩ := trodVars_none hV
  obtain ⟨b0, x0, l0, rfl, hs0, hu0⟩ := arg_z Tryd.underlying25 (by kernel_rfl) (by kernel_rfl) Tryd.underlying4 Tryd.underlying23 Tryd.underlying74 cells_u (hval 0 25 v0 rfl rfl) t0
  obtain ⟨S1, rfl, hd1, hp1, hs1⟩ := Go.ChangeMaps.open_string Tryd.underlying9 (hval 1 9 v1 rfl rfl) t1
  clear hA0 hval0
  simp only [List.append_nil] at hW'
  have hlt0 : ∀ x ∈ p0, x.block < W.heap.size := fun x hx => hW'.lt x (List.mem_append_left _ hx)
  have hlt1 : ∀ x ∈ p1, x.block < W.heap.size := fun x hx => hW'.lt x (List.mem_append_right _ (hx))
  refine (walk b0 x0 l0 S1 W hs0 hu0 hs1).mono fun e W' ⟨he, hb⟩ => ?_
  subst he
  have s0 := Below.trod laidOut (by kernel_rfl) (of_decide_eq_true (by kernel_rfl)) t0 hb hlt0
  have s1 := Below.trod laidOut (by kernel_rfl) (of_decide_eq_true (by kernel_rfl)) t1 hb hlt1
  exact ⟨_, rfl, _, _, _, [] ++ [], _, [], hW', trodAll_cons_mk (shut_bool Tryd.underlying4 _) trodAll_mk0, trodAll_cons_mk s0 (trodAll_cons_mk s1 (trodAll_mk0)), rfl, hb.frame _, fun h => by cases h⟩

theorem over : Rows.wholeTextsRow.holds Tryd.pinned (OpenSpec.ofChange Rows.wholeTextsSpec) :=
  OpenClaim.holds_of_wide 6 Tryd.f6 rfl rfl rfl rfl rfl rfl rfl ⟨rfl, rfl, rfl, rfl, rfl⟩ rfl rfl rfl rfl rfl (by kernel_rfl) Tryd.func6 (by kernel_rfl)
    (of_decide_eq_true (by kernel_rfl)) (by unfold Func.isWrapper; first | (rw [if_pos (by decide +kernel)]; kernel_rfl) | (rw [if_neg (by decide +kernel)]; exact ⟨rfl, rfl⟩))
    (fun os started H enc _ => lifted os started H enc)

/-- The statement: the card. -/
theorem proved : Rows.WholeTextsCardSaid :=
  Claim7.holds_tied_plain_at .later [] [.data, .pinned] true _ false over (fun _ h => by cases h) (by kernel_rfl) (fun _ h => by cases h) wholeTexts_row_tie rfl ⟨rfl, rfl⟩ (by kernel_rfl) rfl
    (fun f fn hf hfn => by
      obtain rfl : f = 6 := Option.some.inj ((show Tryd.prog.funcNamed Rows.wholeTextsRow.func = some 6 by kernel_rfl).symm.trans hf) |>.symm
      obtain rfl : fn = Tryd.f6 := (Option.some.inj (Tryd.func6.symm.trans hfn)).symm
      exact ⟨by kernel_rfl, fun j t ht => by
        rw [Tryd.params6] at ht
        have hm : t ∈ [25, 9] := by simpa using Array.mem_of_getElem? ht
        have hall : ([25, 9].all fun u => !Tryd.prog.wantsStandIn u) = true := by kernel_rfl
        exact (show Tryd.prog.wantsStandIn t = false by simpa using List.all_eq_true.1 hall t hm)⟩)
    (by kernel_rfl)
end Go.Proofs.YtcmjbkgcknimlaaDoor.wholeTexts
