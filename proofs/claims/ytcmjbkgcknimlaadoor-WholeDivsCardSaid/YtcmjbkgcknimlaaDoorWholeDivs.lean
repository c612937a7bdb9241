/- WholeDivs: any whole number is divided by any other one as the document says, or refused. Condition: the arguments can be read as data. -/
import Derived.Test.YtcmjbkgcknimlaaDoorWhlM
import Derived.Test.YtcmjbkgcknimlaaDoorFlowL
import Derived.Deep.Cut
import Derived.Test.YtcmjbkgcknimlaaDoorCards
import Derived.Test.YtcmjbkgcknimlaaDoorTie
import Derived.OpenShut
import Derived.LaidMore
import Derived.Lay
import Derived.SevenTiedAt
import Derived.Stop.Joined
namespace Go.Proofs.YtcmjbkgcknimlaaDoor.wholeDivs
open Go.ChangeShapes Go.WideShapes Go.ChangeAt Go.RowKit Go.Proofs.YtcmjbkgcknimlaaDoor.num Go.Proofs.YtcmjbkgcknimlaaDoor.mem Go.Proofs.YtcmjbkgcknimlaaDoor.nat Go.Proofs.YtcmjbkgcknimlaaDoor.txt Go.Proofs.YtcmjbkgcknimlaaDoor.str Go.Proofs.YtcmjbkgcknimlaaDoor.flow Go.Proofs.YtcmjbkgcknimlaaDoor.whl
set_option linter.unusedVariables false

theorem own : ownKnob Tryd.prog.godebug = none := by kernel_rfl
theorem laidOut : laidOutB Tryd.prog = true := by kernel_rfl
theorem cells_u : Tryd.prog.cellsOf 74 = 1 := by kernel_rfl


set_option maxHeartbeats 6400000 in
set_option maxRecDepth 100000 in
/-- The walk: the Go text returns true; what was there is as it was. -/
theorem walk (b0 : Bool) (v0 : Value) (l0 : List Nat) (b1 : Bool) (v1 : Value) (l1 : List Nat) (w : World) (h0 : IsS w .u64 v0 l0) (u0 : Lt 18446744073709551616 l0) (h1 : IsS w .u64 v1 l1) (u1 : Lt 18446744073709551616 l1) :
    Calls Tryd.prog 5 #[.agg #[.bool b0, v0], .agg #[.bool b1, v1]] w (RetV (.bool true) w) := by
  obtain ⟨x, hx0⟩ : ∃ x, x = cleanZ b0 l0 10 := ⟨_, rfl⟩
  have lx : lenZ x ≤ 10 := by rw [hx0]; exact cleanZ_len _ _ _
  have HX0 := Lib.hid hx0.symm
  clear hx0
  obtain ⟨y, hx1⟩ : ∃ y, y = cleanZ b1 l1 10 := ⟨_, rfl⟩
  have ly : lenZ y ≤ 10 := by rw [hx1]; exact cleanZ_len _ _ _
  have HX1 := Lib.hid hx1.symm
  clear hx1
  obtain ⟨A0, c0, rfl, _⟩ := id h0
  obtain ⟨A1, c1, rfl, _⟩ := id h1
  go_enter Tryd.func5, Tryd.ntmps5
  go_upto_region 1 with (fail)
  obtain ⟨w0, hwx, bb, BP0, BP1, hsz⟩ := vars2 w 25 25 #[.bool b0, .slice A0 l0.length c0] #[.bool b1, .slice A1 l1.length c1]
  rw [hwx]
  clear hwx
  have kp0s := h0.below bb
  have kp1s := h1.below bb
  have hsz0 := bb.size
  refine flow 4 [Pd.eq (.agg #[.bool b0, .slice A0 l0.length c0]), pz (x) w0.heap.size, Pd.eq (.agg #[.bool b1, .slice A1 l1.length c1]), pz (y) w0.heap.size] (by kernel_rfl) (by kernel_rfl) ?ob1 ?done1
  case ob1 =>
    refine And.intro (ob_load rfl (wt_none rfl) (ev_far rfl rfl) (fun w2 hb => run_loadAll Tryd.underlying25 rfl (by kernel_rfl) (BP0.drew.below hb)) (fun _ _ => rfl)) ?_
    refine And.intro (ob_call2 rfl Tryd.func8 (by kernel_rfl) (wt_none rfl) (ev_dep (j := 0) (by kernel_rfl) rfl rfl) (ev_const _) (fun w2 u0 u1 hb h0 h1 => by obtain rfl := h0; obtain rfl := h1; exact (HX0.out ▸ zclean_any _ _ _ _ 10 _ rfl (kp0s.drew.below hb) u0 (by omega)).mono fun e w3 h => RetZ.pd h hb.size)) ?_
    refine And.intro (ob_load rfl (wt_none rfl) (ev_far rfl rfl) (fun w2 hb => run_loadAll Tryd.underlying25 rfl (by kernel_rfl) (BP1.drew.below hb)) (fun _ _ => rfl)) ?_
    refine And.intro (ob_call2 rfl Tryd.func8 (by kernel_rfl) (wt_none rfl) (ev_dep (j := 2) (by kernel_rfl) rfl rfl) (ev_const _) (fun w2 u0 u1 hb h0 h1 => by obtain rfl := h0; obtain rfl := h1; exact (HX1.out ▸ zclean_any _ _ _ _ 10 _ rfl (kp1s.drew.below hb) u1 (by omega)).mono fun e w3 h => RetZ.pd h hb.size)) ?_
    trivial
  case done1 =>
    refine fun w1 hb1 v0 h0 v1 h1 v2 h2 v3 h3 b hbf => ?_
    obtain rfl := h0; obtain rfl := h2
    obtain ⟨q1, f1⟩ := h1
    obtain ⟨q3, f3⟩ := h3
    simp only [Act.put, List.setIfInBounds_toArray, List.set_cons_zero, List.set_cons_succ] at hbf
    subst hbf
    replace BP0 := BP0.below hb1
    replace BP1 := BP1.below hb1
    replace kp0s := kp0s.below hb1
    replace kp1s := kp1s.below hb1
    replace bb := bb.trans (hb1.mono bb.size)
    have hsz1 := bb.size
    obtain ⟨u1, rfl, q1⟩ := q1
    obtain ⟨A2, c2, rfl, _⟩ := id q1
    obtain ⟨u3, rfl, q3⟩ := q3
    obtain ⟨A3, c3, rfl, _⟩ := id q3
    refine any_store (i := 4) (by kernel_rfl) rfl rfl rfl rfl rfl rfl (cells := [.bool (ngB x), .slice A2 (digs 4294967296 (x).natAbs).length c2]) rfl BP0 rfl (by kernel_rfl) (one2 rfl rfl) fun w2 hg2 BN2 => ?_
    replace q3 := off q3 BP0 no_ints2 hg2
    replace q1 := off q1 BP0 no_ints2 hg2
    replace kp1s := off kp1s BP0 no_ints2 hg2
    replace BP1 := BP1.grown hg2 (by omega)
    replace bb := bb.trans ((Below.refl _ _).grown hg2 bb.size (fun g hg => by injection hg with hg; omega))
    have hsz2 := bb.size
    have Bx : Blk w2 (w.heap.size) _ _ := BN2
    have kxs := q1
    have kx : IsZ w2 (.agg #[.bool (ngB x), .slice A2 (digs 4294967296 (x).natAbs).length c2]) (x) := ⟨_, rfl, kxs⟩
    refine any_store (i := 5) (by kernel_rfl) rfl rfl rfl rfl rfl rfl (cells := [.bool (ngB y), .slice A3 (digs 4294967296 (y).natAbs).length c3]) rfl BP1 rfl (by kernel_rfl) (one2 rfl rfl) fun w3 hg3 BN3 => ?_
    replace q3 := off q3 BP1 no_ints2 hg3
    replace kxs := off kxs BP1 no_ints2 hg3
    replace kx : IsZ w3 (.agg #[.bool (ngB x), .slice A2 (digs 4294967296 (x).natAbs).length c2]) (x) := ⟨_, rfl, kxs⟩
    replace Bx := Bx.grown hg3 (by omega)
    replace bb := bb.trans ((Below.refl _ _).grown hg3 bb.size (fun g hg => by injection hg with hg; omega))
    have hsz3 := bb.size
    have By : Blk w3 (w.heap.size + 1) _ _ := BN3
    have kys := q3
    have ky : IsZ w3 (.agg #[.bool (ngB y), .slice A3 (digs 4294967296 (y).natAbs).length c3]) (y) := ⟨_, rfl, kys⟩
    refine any_done (by kernel_rfl) ?_
    by_cases hy0 : y = 0
    · go_upto_region 2 with (fail)
      have lt3_2 := Blk.lt Bx
      have lt3_3 := Blk.lt By
      refine flowp 9 [Pd.eq (.agg #[.bool (ngB x), .slice A2 (digs 4294967296 (x).natAbs).length c2]), Pd.eq (.agg #[.bool (ngB y), .slice A3 (digs 4294967296 (y).natAbs).length c3]), pzz ((0 : Int)) ((0 : Int)) 3 w3.heap.size, pzz ((0 : Int)) ((0 : Int)) 3 w3.heap.size, pz ((0 : Int)) w3.heap.size, pz ((0 : Int)) w3.heap.size, Pd.eq (.int .i64 3), pn 25 #[.bool false, .slice none 0 0] w3.heap.size, pn 25 #[.bool false, .slice none 0 0] w3.heap.size] (by kernel_rfl) ?ob2 ?done2
      case ob2 =>
        refine And.intro (ob_load rfl (wt_none rfl) (ev_far rfl rfl) (fun w2 hb => run_loadAll Tryd.underlying25 rfl (by kernel_rfl) (Bx.below hb)) (fun _ _ => rfl)) ?_
        refine And.intro (ob_load rfl (wt_none rfl) (ev_far rfl rfl) (fun w2 hb => run_loadAll Tryd.underlying25 rfl (by kernel_rfl) (By.below hb)) (fun _ _ => rfl)) ?_
        refine And.intro (ob_call2 rfl Tryd.func33 (by kernel_rfl) (wt_none rfl) (ev_dep (j := 0) (by kernel_rfl) rfl rfl) (ev_dep (j := 1) (by kernel_rfl) rfl rfl) (fun w2 u0 u1 hb h0 h1 => by obtain rfl := h0; obtain rfl := h1; exact (zfloor_zero _ _ _ _ _ (kx.below hb) (ky.below hb) hy0).mono fun e w3 h => RetZZE.pd h hb.size)) ?_
        refine And.intro (ob_move rfl (wt_none rfl) (ev_dep (j := 2) (by kernel_rfl) rfl rfl) (fun _ _ h => h)) ?_
        refine And.intro (ob_extract rfl (wt_none rfl) (ev_dep (j := 3) (by kernel_rfl) rfl rfl) (fun w2 u hu => by obtain ⟨v, u, rfl, q1, q2, q3, q4⟩ := hu; exact ⟨v, rfl, q1, q3⟩)) ?_
        refine And.intro (ob_extract rfl (wt_none rfl) (ev_dep (j := 3) (by kernel_rfl) rfl rfl) (fun w2 u hu => by obtain ⟨v, u, rfl, q1, q2, q3, q4⟩ := hu; exact ⟨u, rfl, q2, q4⟩)) ?_
        refine And.intro (ob_extract rfl (wt_none rfl) (ev_dep (j := 3) (by kernel_rfl) rfl rfl) (fun w2 u hu => by obtain ⟨v, u, rfl, q1, q2, q3, q4⟩ := hu; exact ⟨_, rfl, rfl⟩)) ?_
        refine And.intro (ob_alloc (z := .agg #[.bool false, .slice none 0 0]) rfl rfl (fun _ => by kernel_rfl) (fun _ _ hB h => ⟨_, rfl, hB, h⟩)) ?_
        refine And.intro (ob_alloc (z := .agg #[.bool false, .slice none 0 0]) rfl rfl (fun _ => by kernel_rfl) (fun _ _ hB h => ⟨_, rfl, hB, h⟩)) ?_
        trivial
      case done2 =>
        refine fun w4 hb4 v0 h0 v1 h1 v2 h2 v3 h3 v4 h4 v5 h5 v6 h6 v7 h7 d7 v8 h8 d8 b hbf => ?_
        obtain rfl := h0; obtain rfl := h1; obtain rfl := h6
        clear h2
        clear h3
        obtain ⟨q4, f4⟩ := h4
        obtain ⟨q5, f5⟩ := h5
        obtain ⟨g7, rfl, hg7, B7⟩ := h7
        obtain ⟨g8, rfl, hg8, B8⟩ := h8
        simp only [Act.put, List.setIfInBounds_toArray, List.set_cons_zero, List.set_cons_succ] at hbf
        subst hbf
        replace Bx := Bx.below hb4
        replace By := By.below hb4
        replace kxs := kxs.below hb4
        replace kys := kys.below hb4
        replace kx := kx.below hb4
        replace ky := ky.below hb4
        replace bb := bb.trans (hb4.mono bb.size)
        have hsz4 := bb.size
        have BA5 := B7
        have BA6 := B8
        have hne7_8 : g7 ≠ g8 := fun e => d8 (.pointer (some ⟨g7, 0, none⟩)) (by simp) (by rw [e])
        obtain ⟨u4, rfl, q4⟩ := q4
        obtain ⟨A5, c5, rfl, _⟩ := id q4
        obtain ⟨u5, rfl, q5⟩ := q5
        obtain ⟨A6, c6, rfl, _⟩ := id q5
        refine ops_store (i := 9) rfl rfl rfl rfl rfl rfl (cells := [.bool (ngB (0 : Int)), .slice A5 (digs 4294967296 ((0 : Int)).natAbs).length c5]) rfl BA5 rfl (by kernel_rfl) (one2 rfl rfl) fun w5 hg5 BN5 => ?_
        replace q5 := off q5 BA5 no_ints2 hg5
        replace q4 := off q4 BA5 no_ints2 hg5
        replace kxs := off kxs BA5 no_ints2 hg5
        replace kx : IsZ w5 (.agg #[.bool (ngB x), .slice A2 (digs 4294967296 (x).natAbs).length c2]) (x) := ⟨_, rfl, kxs⟩
        replace Bx := Bx.grown hg5 (by omega)
        replace kys := off kys BA5 no_ints2 hg5
        replace ky : IsZ w5 (.agg #[.bool (ngB y), .slice A3 (digs 4294967296 (y).natAbs).length c3]) (y) := ⟨_, rfl, kys⟩
        replace By := By.grown hg5 (by omega)
        replace BA6 := BA6.grown hg5 (by omega)
        replace bb := bb.trans ((Below.refl _ _).grown hg5 bb.size (fun g hg => by injection hg with hg; omega))
        have hsz5 := bb.size
        have Bq : Blk w5 (g7) _ _ := BN5
        have kqs := q4
        have kq : IsZ w5 (.agg #[.bool (ngB (0 : Int)), .slice A5 (digs 4294967296 ((0 : Int)).natAbs).length c5]) ((0 : Int)) := ⟨_, rfl, kqs⟩
        refine ops_store (i := 10) rfl rfl rfl rfl rfl rfl (cells := [.bool (ngB (0 : Int)), .slice A6 (digs 4294967296 ((0 : Int)).natAbs).length c6]) rfl BA6 rfl (by kernel_rfl) (one2 rfl rfl) fun w6 hg6 BN6 => ?_
        replace q5 := off q5 BA6 no_ints2 hg6
        replace kxs := off kxs BA6 no_ints2 hg6
        replace kx : IsZ w6 (.agg #[.bool (ngB x), .slice A2 (digs 4294967296 (x).natAbs).length c2]) (x) := ⟨_, rfl, kxs⟩
        replace Bx := Bx.grown hg6 (by omega)
        replace kys := off kys BA6 no_ints2 hg6
        replace ky : IsZ w6 (.agg #[.bool (ngB y), .slice A3 (digs 4294967296 (y).natAbs).length c3]) (y) := ⟨_, rfl, kys⟩
        replace By := By.grown hg6 (by omega)
        replace kqs := off kqs BA6 no_ints2 hg6
        replace kq : IsZ w6 (.agg #[.bool (ngB (0 : Int)), .slice A5 (digs 4294967296 ((0 : Int)).natAbs).length c5]) ((0 : Int)) := ⟨_, rfl, kqs⟩
        replace Bq := Bq.grown hg6 (by omega)
        replace bb := bb.trans ((Below.refl _ _).grown hg6 bb.size (fun g hg => by injection hg with hg; omega))
        have hsz6 := bb.size
        have Br : Blk w6 (g8) _ _ := BN6
        have krs := q5
        have kr : IsZ w6 (.agg #[.bool (ngB (0 : Int)), .slice A6 (digs 4294967296 ((0 : Int)).natAbs).length c6]) ((0 : Int)) := ⟨_, rfl, krs⟩
        refine ops_assign (i := 11) (.int .i64 3) rfl rfl rfl rfl rfl fun b hbf => ?_
        simp only [Act.put, List.setIfInBounds_toArray, List.set_cons_zero, List.set_cons_succ] at hbf
        subst hbf
        refine ops_done ?_
        go_upto_region 3 with (fail)
        have lt6_2 := Blk.lt Bx
        have lt6_3 := Blk.lt By
        have lt6_5 := Blk.lt Bq
        have lt6_6 := Blk.lt Br
        refine flowp 7 [Pd.eq (.agg #[.bool (ngB x), .slice A2 (digs 4294967296 (x).natAbs).length c2]), Pd.eq (.agg #[.bool (ngB y), .slice A3 (digs 4294967296 (y).natAbs).length c3]), pze ((0 : Int)) 3 w6.heap.size, pze ((0 : Int)) 3 w6.heap.size, pz ((0 : Int)) w6.heap.size, Pd.eq (.int .i64 3), pn 25 #[.bool false, .slice none 0 0] w6.heap.size] (by kernel_rfl) ?ob3 ?done3
        case ob3 =>
          refine And.intro (ob_load rfl (wt_none rfl) (ev_far rfl rfl) (fun w2 hb => run_loadAll Tryd.underlying25 rfl (by kernel_rfl) (Bx.below hb)) (fun _ _ => rfl)) ?_
          refine And.intro (ob_load rfl (wt_none rfl) (ev_far rfl rfl) (fun w2 hb => run_loadAll Tryd.underlying25 rfl (by kernel_rfl) (By.below hb)) (fun _ _ => rfl)) ?_
          refine And.intro (ob_call2 rfl Tryd.func34 (by kernel_rfl) (wt_none rfl) (ev_dep (j := 0) (by kernel_rfl) rfl rfl) (ev_dep (j := 1) (by kernel_rfl) rfl rfl) (fun w2 u0 u1 hb h0 h1 => by obtain rfl := h0; obtain rfl := h1; exact (zexact_zero _ _ _ _ _ (kx.below hb) (ky.below hb) hy0).mono fun e w3 h => RetZE.pd h hb.size)) ?_
          refine And.intro (ob_move rfl (wt_none rfl) (ev_dep (j := 2) (by kernel_rfl) rfl rfl) (fun _ _ h => h)) ?_
          refine And.intro (ob_extract rfl (wt_none rfl) (ev_dep (j := 3) (by kernel_rfl) rfl rfl) (fun w2 u hu => by obtain ⟨v, rfl, q1, q2⟩ := hu; exact ⟨v, rfl, q1, q2⟩)) ?_
          refine And.intro (ob_extract rfl (wt_none rfl) (ev_dep (j := 3) (by kernel_rfl) rfl rfl) (fun w2 u hu => by obtain ⟨v, rfl, q1, q2⟩ := hu; exact ⟨_, rfl, rfl⟩)) ?_
          refine And.intro (ob_alloc (z := .agg #[.bool false, .slice none 0 0]) rfl rfl (fun _ => by kernel_rfl) (fun _ _ hB h => ⟨_, rfl, hB, h⟩)) ?_
          trivial
        case done3 =>
          refine fun w7 hb7 v0 h0 v1 h1 v2 h2 v3 h3 v4 h4 v5 h5 v6 h6 d6 b hbf => ?_
          obtain rfl := h0; obtain rfl := h1; obtain rfl := h5
          clear h2
          clear h3
          obtain ⟨q4, f4⟩ := h4
          obtain ⟨g6, rfl, hg6, B6⟩ := h6
          simp only [Act.put, List.setIfInBounds_toArray, List.set_cons_zero, List.set_cons_succ] at hbf
          subst hbf
          replace Bx := Bx.below hb7
          replace By := By.below hb7
          replace Bq := Bq.below hb7
          replace Br := Br.below hb7
          replace kxs := kxs.below hb7
          replace kys := kys.below hb7
          replace kqs := kqs.below hb7
          replace krs := krs.below hb7
          replace kx := kx.below hb7
          replace ky := ky.below hb7
          replace kq := kq.below hb7
          replace kr := kr.below hb7
          replace bb := bb.trans (hb7.mono bb.size)
          have hsz7 := bb.size
          have BA8 := B6
          obtain ⟨u4, rfl, q4⟩ := q4
          obtain ⟨A8, c8, rfl, _⟩ := id q4
          refine ops_store (i := 7) rfl rfl rfl rfl rfl rfl (cells := [.bool (ngB (0 : Int)), .slice A8 (digs 4294967296 ((0 : Int)).natAbs).length c8]) rfl BA8 rfl (by kernel_rfl) (one2 rfl rfl) fun w8 hg8 BN8 => ?_
          replace q4 := off q4 BA8 no_ints2 hg8
          replace kxs := off kxs BA8 no_ints2 hg8
          replace kx : IsZ w8 (.agg #[.bool (ngB x), .slice A2 (digs 4294967296 (x).natAbs).length c2]) (x) := ⟨_, rfl, kxs⟩
          replace Bx := Bx.grown hg8 (by omega)
          replace kys := off kys BA8 no_ints2 hg8
          replace ky : IsZ w8 (.agg #[.bool (ngB y), .slice A3 (digs 4294967296 (y).natAbs).length c3]) (y) := ⟨_, rfl, kys⟩
          replace By := By.grown hg8 (by omega)
          replace kqs := off kqs BA8 no_ints2 hg8
          replace kq : IsZ w8 (.agg #[.bool (ngB (0 : Int)), .slice A5 (digs 4294967296 ((0 : Int)).natAbs).length c5]) ((0 : Int)) := ⟨_, rfl, kqs⟩
          replace Bq := Bq.grown hg8 (by omega)
          replace krs := off krs BA8 no_ints2 hg8
          replace kr : IsZ w8 (.agg #[.bool (ngB (0 : Int)), .slice A6 (digs 4294967296 ((0 : Int)).natAbs).length c6]) ((0 : Int)) := ⟨_, rfl, krs⟩
          replace Br := Br.grown hg8 (by omega)
          replace bb := bb.trans ((Below.refl _ _).grown hg8 bb.size (fun g hg => by injection hg with hg; omega))
          have hsz8 := bb.size
          have Bp : Blk w8 (g6) _ _ := BN8
          have kps := q4
          have kp : IsZ w8 (.agg #[.bool (ngB (0 : Int)), .slice A8 (digs 4294967296 ((0 : Int)).natAbs).length c8]) ((0 : Int)) := ⟨_, rfl, kps⟩
          refine ops_assign (i := 8) (.int .i64 3) rfl rfl rfl rfl rfl fun b hbf => ?_
          simp only [Act.put, List.setIfInBounds_toArray, List.set_cons_zero, List.set_cons_succ] at hbf
          subst hbf
          refine ops_done ?_
          have hlen0 : (digs 4294967296 y.natAbs).length = 0 := by rw [hy0, Int.natAbs_zero, digs_zero]; rfl
          have HLZ : Hid ((digs 4294967296 (0 : Int).natAbs).length = 0) := by show _ = _; rw [Int.natAbs_zero, digs_zero]; rfl
          clear hy0
          obtain ⟨xb0, xb1, _, _⟩ := Blk.two By
          go_upto_region 5 with (fail)
          refine flowp 25 [Pd.eq (.int .i64 3), Pd.eq (.bool true), Pd.eq (.bool true), Pd.eq (.int .i64 3), Pd.eq (.int .i64 3), Pd.eq (.bool true), Pd.eq (.bool true), Pd.eq (.bool true), Pd.eq (.pointer (some ⟨g7, 1, none⟩)), Pd.eq (.slice A5 (digs 4294967296 ((0 : Int)).natAbs).length c5), Pd.eq (.int .i64 0), Pd.eq (.pointer (some ⟨g8, 1, none⟩)), Pd.eq (.slice A6 (digs 4294967296 ((0 : Int)).natAbs).length c6), Pd.eq (.int .i64 0), Pd.eq (.int .i64 0), Pd.eq (.pointer (some ⟨g6, 1, none⟩)), Pd.eq (.slice A8 (digs 4294967296 ((0 : Int)).natAbs).length c8), Pd.eq (.int .i64 0), Pd.eq (.int .i64 0), Pd.eq (.bool true), Pd.eq (.bool true), Pd.eq (.bool true), Pd.eq (.bool true), Pd.eq (.bool true), Pd.eq (.bool true)] (by kernel_rfl) ?ob4 ?done4
          case ob4 =>
            refine And.intro (ob_move rfl (wt_none rfl) (ev_far rfl rfl) (fun _ _ h => h)) ?_
            refine And.intro (ob_bin rfl (wt_none rfl) (ev_dep (j := 0) (by kernel_rfl) rfl rfl) (ev_const _) (fun _ _ _ hx hy => ⟨.bool ((3 : Int) == 3), by rw [hx, hy]; exact bin_eql_int _ _ _ _ _, congrArg Value.bool (by decide)⟩)) ?_
            refine And.intro (ob_move rfl (wt_none rfl) (ev_dep (j := 1) (by kernel_rfl) rfl rfl) (fun _ _ h => h)) ?_
            refine And.intro (ob_move rfl (wt_dep (c := true) (b := true) (g := 2) rfl (by kernel_rfl) rfl rfl rfl (by exact fun _ _ h => h)) (ev_far rfl rfl) (fun _ _ h => h)) ?_
            refine And.intro (ob_move rfl (wt_dep (c := true) (b := true) (g := 2) rfl (by kernel_rfl) rfl rfl rfl (by exact fun _ _ h => h)) (ev_far rfl rfl) (fun _ _ h => h)) ?_
            refine And.intro (ob_bin rfl (wt_dep (c := true) (b := true) (g := 2) rfl (by kernel_rfl) rfl rfl rfl (by exact fun _ _ h => h)) (ev_dep (j := 3) (by kernel_rfl) rfl rfl) (ev_dep (j := 4) (by kernel_rfl) rfl rfl) (fun _ _ _ hx hy => ⟨.bool ((3 : Int) == 3), by rw [hx, hy]; exact bin_eql_int _ _ _ _ _, congrArg Value.bool (by decide)⟩)) ?_
            refine And.intro (ob_pick (b := true) rfl (wt_none rfl) (ev_dep (j := 2) (by kernel_rfl) rfl rfl) (ev_dep (j := 5) (by kernel_rfl) rfl rfl) (fun _ _ h => h)) ?_
            refine And.intro (ob_move rfl (wt_none rfl) (ev_dep (j := 6) (by kernel_rfl) rfl rfl) (fun _ _ h => h)) ?_
            refine And.intro (ob_fieldAddr rfl (wt_dep (c := true) (b := true) (g := 7) rfl (by kernel_rfl) rfl rfl rfl (by exact fun _ _ h => h)) (ev_far rfl rfl) (fun _ => by kernel_rfl) (fun _ => rfl)) ?_
            refine And.intro (ob_load rfl (wt_dep (c := true) (b := true) (g := 7) rfl (by kernel_rfl) rfl rfl rfl (by exact fun _ _ h => h)) (ev_dep (j := 8) (by kernel_rfl) rfl rfl) (fun w2 hb => run_load1 Tryd.underlying23 rfl ((Bq.below hb).cell 1)) (fun _ _ => rfl)) ?_
            refine And.intro (ob_len rfl (wt_dep (c := true) (b := true) (g := 7) rfl (by kernel_rfl) rfl rfl rfl (by exact fun _ _ h => h)) (ev_dep (j := 9) (by kernel_rfl) rfl rfl) (fun _ _ hx => ⟨_, by rw [hx]; exact len_slice Tryd.underlying23 _ _ _ _, congrArg (fun n : Nat => Value.int .i64 (n : Int)) HLZ.out⟩)) ?_
            refine And.intro (ob_fieldAddr rfl (wt_dep (c := true) (b := true) (g := 7) rfl (by kernel_rfl) rfl rfl rfl (by exact fun _ _ h => h)) (ev_far rfl rfl) (fun _ => by kernel_rfl) (fun _ => rfl)) ?_
            refine And.intro (ob_load rfl (wt_dep (c := true) (b := true) (g := 7) rfl (by kernel_rfl) rfl rfl rfl (by exact fun _ _ h => h)) (ev_dep (j := 11) (by kernel_rfl) rfl rfl) (fun w2 hb => run_load1 Tryd.underlying23 rfl ((Br.below hb).cell 1)) (fun _ _ => rfl)) ?_
            refine And.intro (ob_len rfl (wt_dep (c := true) (b := true) (g := 7) rfl (by kernel_rfl) rfl rfl rfl (by exact fun _ _ h => h)) (ev_dep (j := 12) (by kernel_rfl) rfl rfl) (fun _ _ hx => ⟨_, by rw [hx]; exact len_slice Tryd.underlying23 _ _ _ _, congrArg (fun n : Nat => Value.int .i64 (n : Int)) HLZ.out⟩)) ?_
            refine And.intro (ob_bin rfl (wt_dep (c := true) (b := true) (g := 7) rfl (by kernel_rfl) rfl rfl rfl (by exact fun _ _ h => h)) (ev_dep (j := 10) (by kernel_rfl) rfl rfl) (ev_dep (j := 13) (by kernel_rfl) rfl rfl) (fun _ _ _ hx hy => ⟨.int .i64 0, by rw [hx, hy]; kernel_rfl, rfl⟩)) ?_
            refine And.intro (ob_fieldAddr rfl (wt_dep (c := true) (b := true) (g := 7) rfl (by kernel_rfl) rfl rfl rfl (by exact fun _ _ h => h)) (ev_far rfl rfl) (fun _ => by kernel_rfl) (fun _ => rfl)) ?_
            refine And.intro (ob_load rfl (wt_dep (c := true) (b := true) (g := 7) rfl (by kernel_rfl) rfl rfl rfl (by exact fun _ _ h => h)) (ev_dep (j := 15) (by kernel_rfl) rfl rfl) (fun w2 hb => run_load1 Tryd.underlying23 rfl ((Bp.below hb).cell 1)) (fun _ _ => rfl)) ?_
            refine And.intro (ob_len rfl (wt_dep (c := true) (b := true) (g := 7) rfl (by kernel_rfl) rfl rfl rfl (by exact fun _ _ h => h)) (ev_dep (j := 16) (by kernel_rfl) rfl rfl) (fun _ _ hx => ⟨_, by rw [hx]; exact len_slice Tryd.underlying23 _ _ _ _, congrArg (fun n : Nat => Value.int .i64 (n : Int)) HLZ.out⟩)) ?_
            refine And.intro (ob_bin rfl (wt_dep (c := true) (b := true) (g := 7) rfl (by kernel_rfl) rfl rfl rfl (by exact fun _ _ h => h)) (ev_dep (j := 14) (by kernel_rfl) rfl rfl) (ev_dep (j := 17) (by kernel_rfl) rfl rfl) (fun _ _ _ hx hy => ⟨.int .i64 0, by rw [hx, hy]; kernel_rfl, rfl⟩)) ?_
            refine And.intro (ob_bin rfl (wt_dep (c := true) (b := true) (g := 7) rfl (by kernel_rfl) rfl rfl rfl (by exact fun _ _ h => h)) (ev_dep (j := 18) (by kernel_rfl) rfl rfl) (ev_const _) (fun _ _ _ hx hy => ⟨.bool ((0 : Int) == 0), by rw [hx, hy]; exact bin_eql_int _ _ _ _ _, congrArg Value.bool (by decide)⟩)) ?_
            refine And.intro (ob_pick (b := true) rfl (wt_none rfl) (ev_dep (j := 7) (by kernel_rfl) rfl rfl) (ev_dep (j := 19) (by kernel_rfl) rfl rfl) (fun _ _ h => h)) ?_
            refine And.intro (ob_move rfl (wt_none rfl) (ev_dep (j := 20) (by kernel_rfl) rfl rfl) (fun _ _ h => h)) ?_
            refine And.intro (ob_call0 rfl Tryd.func24 (by kernel_rfl) (wt_dep (c := true) (b := true) (g := 21) rfl (by kernel_rfl) rfl rfl rfl (by exact fun _ _ h => h)) (fun w2 hb => (works7_any _).mono fun e w3 h => RetV.pd h)) ?_
            refine And.intro (ob_pick (b := true) rfl (wt_none rfl) (ev_dep (j := 21) (by kernel_rfl) rfl rfl) (ev_dep (j := 22) (by kernel_rfl) rfl rfl) (fun _ _ h => h)) ?_
            refine And.intro (ob_assign rfl (wt_none rfl) (ev_dep (j := 23) (by kernel_rfl) rfl rfl) (fun _ _ h => h)) ?_
            trivial
          case done4 =>
            refine fun w9 hb9 v0 h0 v1 h1 v2 h2 v3 h3 v4 h4 v5 h5 v6 h6 v7 h7 v8 h8 v9 h9 v10 h10 v11 h11 v12 h12 v13 h13 v14 h14 v15 h15 v16 h16 v17 h17 v18 h18 v19 h19 v20 h20 v21 h21 v22 h22 v23 h23 v24 h24 b hbf => ?_
            obtain rfl := h0; obtain rfl := h1; obtain rfl := h2; obtain rfl := h3; obtain rfl := h4; obtain rfl := h5; obtain rfl := h6; obtain rfl := h7; obtain rfl := h8; obtain rfl := h9; obtain rfl := h10; obtain rfl := h11; obtain rfl := h12; obtain rfl := h13; obtain rfl := h14; obtain rfl := h15; obtain rfl := h16; obtain rfl := h17; obtain rfl := h18; obtain rfl := h19; obtain rfl := h20; obtain rfl := h21; obtain rfl := h22; obtain rfl := h23; obtain rfl := h24
            simp only [Act.put, List.setIfInBounds_toArray, List.set_cons_zero, List.set_cons_succ] at hbf
            subst hbf
            replace Bx := Bx.below hb9
            replace By := By.below hb9
            replace Bq := Bq.below hb9
            replace Br := Br.below hb9
            replace Bp := Bp.below hb9
            replace kxs := kxs.below hb9
            replace kys := kys.below hb9
            replace kqs := kqs.below hb9
            replace krs := krs.below hb9
            replace kps := kps.below hb9
            replace kx := kx.below hb9
            replace ky := ky.below hb9
            replace kq := kq.below hb9
            replace kr := kr.below hb9
            replace kp := kp.below hb9
            replace bb := bb.trans (hb9.mono bb.size)
            have hsz9 := bb.size
            refine ops_done ?_
            go_wp2
            go_ret
            exact ⟨rfl, bb⟩
    · obtain ⟨q, hq⟩ : ∃ q, q = x.fdiv y := ⟨_, rfl⟩
      obtain ⟨r, hr⟩ : ∃ r, r = x.fmod y := ⟨_, rfl⟩
      have lq : lenZ q ≤ 10 := by rw [hq]; exact lenZ_fdiv_le hy0 lx
      have lr : lenZ r ≤ 10 := by rw [hr]; exact lenZ_fmod_le hy0 ly
      have HE : Hid (q * y + r = x) := by show _ = _; rw [hq, hr, Int.mul_comm]; exact Int.mul_fdiv_add_fmod x y
      have HRm : Hid (r = 0 ↔ x.natAbs % y.natAbs = 0) := by show _ ↔ _; rw [hr]; exact fmod_zero hy0
      have HQ := Lib.hid hq
      have HR := Lib.hid hr
      clear hq hr
      have hylen : 0 < (digs 4294967296 y.natAbs).length := len_pos (by omega)
      have hyl2 : (((digs 4294967296 y.natAbs).length : Int) == 0) = false := by rw [beq_eq_false_iff_ne]; omega
      go_upto_region 2 with (fail)
      have lt3_2 := Blk.lt Bx
      have lt3_3 := Blk.lt By
      refine flowp 9 [Pd.eq (.agg #[.bool (ngB x), .slice A2 (digs 4294967296 (x).natAbs).length c2]), Pd.eq (.agg #[.bool (ngB y), .slice A3 (digs 4294967296 (y).natAbs).length c3]), pzz (q) (r) 0 w3.heap.size, pzz (q) (r) 0 w3.heap.size, pz (q) w3.heap.size, pz (r) w3.heap.size, Pd.eq (.int .i64 0), pn 25 #[.bool false, .slice none 0 0] w3.heap.size, pn 25 #[.bool false, .slice none 0 0] w3.heap.size] (by kernel_rfl) ?ob5 ?done5
      case ob5 =>
        refine And.intro (ob_load rfl (wt_none rfl) (ev_far rfl rfl) (fun w2 hb => run_loadAll Tryd.underlying25 rfl (by kernel_rfl) (Bx.below hb)) (fun _ _ => rfl)) ?_
        refine And.intro (ob_load rfl (wt_none rfl) (ev_far rfl rfl) (fun w2 hb => run_loadAll Tryd.underlying25 rfl (by kernel_rfl) (By.below hb)) (fun _ _ => rfl)) ?_
        refine And.intro (ob_call2 rfl Tryd.func33 (by kernel_rfl) (wt_none rfl) (ev_dep (j := 0) (by kernel_rfl) rfl rfl) (ev_dep (j := 1) (by kernel_rfl) rfl rfl) (fun w2 u0 u1 hb h0 h1 => by obtain rfl := h0; obtain rfl := h1; exact (HQ.out ▸ HR.out ▸ zfloor_any _ _ _ _ _ (kx.below hb) (ky.below hb) (Nat.le_trans lx (by decide)) (Nat.le_trans ly (by decide)) hy0).mono fun e w3 h => RetZZE.pd h hb.size)) ?_
        refine And.intro (ob_move rfl (wt_none rfl) (ev_dep (j := 2) (by kernel_rfl) rfl rfl) (fun _ _ h => h)) ?_
        refine And.intro (ob_extract rfl (wt_none rfl) (ev_dep (j := 3) (by kernel_rfl) rfl rfl) (fun w2 u hu => by obtain ⟨v, u, rfl, q1, q2, q3, q4⟩ := hu; exact ⟨v, rfl, q1, q3⟩)) ?_
        refine And.intro (ob_extract rfl (wt_none rfl) (ev_dep (j := 3) (by kernel_rfl) rfl rfl) (fun w2 u hu => by obtain ⟨v, u, rfl, q1, q2, q3, q4⟩ := hu; exact ⟨u, rfl, q2, q4⟩)) ?_
        refine And.intro (ob_extract rfl (wt_none rfl) (ev_dep (j := 3) (by kernel_rfl) rfl rfl) (fun w2 u hu => by obtain ⟨v, u, rfl, q1, q2, q3, q4⟩ := hu; exact ⟨_, rfl, rfl⟩)) ?_
        refine And.intro (ob_alloc (z := .agg #[.bool false, .slice none 0 0]) rfl rfl (fun _ => by kernel_rfl) (fun _ _ hB h => ⟨_, rfl, hB, h⟩)) ?_
        refine And.intro (ob_alloc (z := .agg #[.bool false, .slice none 0 0]) rfl rfl (fun _ => by kernel_rfl) (fun _ _ hB h => ⟨_, rfl, hB, h⟩)) ?_
        trivial
      case done5 =>
        refine fun w4 hb4 v0 h0 v1 h1 v2 h2 v3 h3 v4 h4 v5 h5 v6 h6 v7 h7 d7 v8 h8 d8 b hbf => ?_
        obtain rfl := h0; obtain rfl := h1; obtain rfl := h6
        clear h2
        clear h3
        obtain ⟨q4, f4⟩ := h4
        obtain ⟨q5, f5⟩ := h5
        obtain ⟨g7, rfl, hg7, B7⟩ := h7
        obtain ⟨g8, rfl, hg8, B8⟩ := h8
        simp only [Act.put, List.setIfInBounds_toArray, List.set_cons_zero, List.set_cons_succ] at hbf
        subst hbf
        replace Bx := Bx.below hb4
        replace By := By.below hb4
        replace kxs := kxs.below hb4
        replace kys := kys.below hb4
        replace kx := kx.below hb4
        replace ky := ky.below hb4
        replace bb := bb.trans (hb4.mono bb.size)
        have hsz4 := bb.size
        have BA5 := B7
        have BA6 := B8
        have hne7_8 : g7 ≠ g8 := fun e => d8 (.pointer (some ⟨g7, 0, none⟩)) (by simp) (by rw [e])
        obtain ⟨u4, rfl, q4⟩ := q4
        obtain ⟨A5, c5, rfl, _⟩ := id q4
        obtain ⟨u5, rfl, q5⟩ := q5
        obtain ⟨A6, c6, rfl, _⟩ := id q5
        refine ops_store (i := 9) rfl rfl rfl rfl rfl rfl (cells := [.bool (ngB q), .slice A5 (digs 4294967296 (q).natAbs).length c5]) rfl BA5 rfl (by kernel_rfl) (one2 rfl rfl) fun w5 hg5 BN5 => ?_
        replace q5 := off q5 BA5 no_ints2 hg5
        replace q4 := off q4 BA5 no_ints2 hg5
        replace kxs := off kxs BA5 no_ints2 hg5
        replace kx : IsZ w5 (.agg #[.bool (ngB x), .slice A2 (digs 4294967296 (x).natAbs).length c2]) (x) := ⟨_, rfl, kxs⟩
        replace Bx := Bx.grown hg5 (by omega)
        replace kys := off kys BA5 no_ints2 hg5
        replace ky : IsZ w5 (.agg #[.bool (ngB y), .slice A3 (digs 4294967296 (y).natAbs).length c3]) (y) := ⟨_, rfl, kys⟩
        replace By := By.grown hg5 (by omega)
        replace BA6 := BA6.grown hg5 (by omega)
        replace bb := bb.trans ((Below.refl _ _).grown hg5 bb.size (fun g hg => by injection hg with hg; omega))
        have hsz5 := bb.size
        have Bq : Blk w5 (g7) _ _ := BN5
        have kqs := q4
        have kq : IsZ w5 (.agg #[.bool (ngB q), .slice A5 (digs 4294967296 (q).natAbs).length c5]) (q) := ⟨_, rfl, kqs⟩
        refine ops_store (i := 10) rfl rfl rfl rfl rfl rfl (cells := [.bool (ngB r), .slice A6 (digs 4294967296 (r).natAbs).length c6]) rfl BA6 rfl (by kernel_rfl) (one2 rfl rfl) fun w6 hg6 BN6 => ?_
        replace q5 := off q5 BA6 no_ints2 hg6
        replace kxs := off kxs BA6 no_ints2 hg6
        replace kx : IsZ w6 (.agg #[.bool (ngB x), .slice A2 (digs 4294967296 (x).natAbs).length c2]) (x) := ⟨_, rfl, kxs⟩
        replace Bx := Bx.grown hg6 (by omega)
        replace kys := off kys BA6 no_ints2 hg6
        replace ky : IsZ w6 (.agg #[.bool (ngB y), .slice A3 (digs 4294967296 (y).natAbs).length c3]) (y) := ⟨_, rfl, kys⟩
        replace By := By.grown hg6 (by omega)
        replace kqs := off kqs BA6 no_ints2 hg6
        replace kq : IsZ w6 (.agg #[.bool (ngB q), .slice A5 (digs 4294967296 (q).natAbs).length c5]) (q) := ⟨_, rfl, kqs⟩
        replace Bq := Bq.grown hg6 (by omega)
        replace bb := bb.trans ((Below.refl _ _).grown hg6 bb.size (fun g hg => by injection hg with hg; omega))
        have hsz6 := bb.size
        have Br : Blk w6 (g8) _ _ := BN6
        have krs := q5
        have kr : IsZ w6 (.agg #[.bool (ngB r), .slice A6 (digs 4294967296 (r).natAbs).length c6]) (r) := ⟨_, rfl, krs⟩
        refine ops_assign (i := 11) (.int .i64 0) rfl rfl rfl rfl rfl fun b hbf => ?_
        simp only [Act.put, List.setIfInBounds_toArray, List.set_cons_zero, List.set_cons_succ] at hbf
        subst hbf
        refine ops_done ?_
        by_cases hr0 : r = 0
        · go_upto_region 3 with (fail)
          have lt6_2 := Blk.lt Bx
          have lt6_3 := Blk.lt By
          have lt6_5 := Blk.lt Bq
          have lt6_6 := Blk.lt Br
          refine flowp 7 [Pd.eq (.agg #[.bool (ngB x), .slice A2 (digs 4294967296 (x).natAbs).length c2]), Pd.eq (.agg #[.bool (ngB y), .slice A3 (digs 4294967296 (y).natAbs).length c3]), pze (q) 0 w6.heap.size, pze (q) 0 w6.heap.size, pz (q) w6.heap.size, Pd.eq (.int .i64 0), pn 25 #[.bool false, .slice none 0 0] w6.heap.size] (by kernel_rfl) ?ob6 ?done6
          case ob6 =>
            refine And.intro (ob_load rfl (wt_none rfl) (ev_far rfl rfl) (fun w2 hb => run_loadAll Tryd.underlying25 rfl (by kernel_rfl) (Bx.below hb)) (fun _ _ => rfl)) ?_
            refine And.intro (ob_load rfl (wt_none rfl) (ev_far rfl rfl) (fun w2 hb => run_loadAll Tryd.underlying25 rfl (by kernel_rfl) (By.below hb)) (fun _ _ => rfl)) ?_
            refine And.intro (ob_call2 rfl Tryd.func34 (by kernel_rfl) (wt_none rfl) (ev_dep (j := 0) (by kernel_rfl) rfl rfl) (ev_dep (j := 1) (by kernel_rfl) rfl rfl) (fun w2 u0 u1 hb h0 h1 => by obtain rfl := h0; obtain rfl := h1; exact (zexact_ok _ _ _ _ q _ (kx.below hb) (ky.below hb) (Nat.le_trans lx (by decide)) (Nat.le_trans ly (by decide)) hy0 (by have h1 := HE.out; rw [hr0] at h1; omega)).mono fun e w3 h => RetZE.pd h hb.size)) ?_
            refine And.intro (ob_move rfl (wt_none rfl) (ev_dep (j := 2) (by kernel_rfl) rfl rfl) (fun _ _ h => h)) ?_
            refine And.intro (ob_extract rfl (wt_none rfl) (ev_dep (j := 3) (by kernel_rfl) rfl rfl) (fun w2 u hu => by obtain ⟨v, rfl, q1, q2⟩ := hu; exact ⟨v, rfl, q1, q2⟩)) ?_
            refine And.intro (ob_extract rfl (wt_none rfl) (ev_dep (j := 3) (by kernel_rfl) rfl rfl) (fun w2 u hu => by obtain ⟨v, rfl, q1, q2⟩ := hu; exact ⟨_, rfl, rfl⟩)) ?_
            refine And.intro (ob_alloc (z := .agg #[.bool false, .slice none 0 0]) rfl rfl (fun _ => by kernel_rfl) (fun _ _ hB h => ⟨_, rfl, hB, h⟩)) ?_
            trivial
          case done6 =>
            refine fun w7 hb7 v0 h0 v1 h1 v2 h2 v3 h3 v4 h4 v5 h5 v6 h6 d6 b hbf => ?_
            obtain rfl := h0; obtain rfl := h1; obtain rfl := h5
            clear h2
            clear h3
            obtain ⟨q4, f4⟩ := h4
            obtain ⟨g6, rfl, hg6, B6⟩ := h6
            simp only [Act.put, List.setIfInBounds_toArray, List.set_cons_zero, List.set_cons_succ] at hbf
            subst hbf
            replace Bx := Bx.below hb7
            replace By := By.below hb7
            replace Bq := Bq.below hb7
            replace Br := Br.below hb7
            replace kxs := kxs.below hb7
            replace kys := kys.below hb7
            replace kqs := kqs.below hb7
            replace krs := krs.below hb7
            replace kx := kx.below hb7
            replace ky := ky.below hb7
            replace kq := kq.below hb7
            replace kr := kr.below hb7
            replace bb := bb.trans (hb7.mono bb.size)
            have hsz7 := bb.size
            have BA8 := B6
            obtain ⟨u4, rfl, q4⟩ := q4
            obtain ⟨A8, c8, rfl, _⟩ := id q4
            refine ops_store (i := 7) rfl rfl rfl rfl rfl rfl (cells := [.bool (ngB q), .slice A8 (digs 4294967296 (q).natAbs).length c8]) rfl BA8 rfl (by kernel_rfl) (one2 rfl rfl) fun w8 hg8 BN8 => ?_
            replace q4 := off q4 BA8 no_ints2 hg8
            replace kxs := off kxs BA8 no_ints2 hg8
            replace kx : IsZ w8 (.agg #[.bool (ngB x), .slice A2 (digs 4294967296 (x).natAbs).length c2]) (x) := ⟨_, rfl, kxs⟩
            replace Bx := Bx.grown hg8 (by omega)
            replace kys := off kys BA8 no_ints2 hg8
            replace ky : IsZ w8 (.agg #[.bool (ngB y), .slice A3 (digs 4294967296 (y).natAbs).length c3]) (y) := ⟨_, rfl, kys⟩
            replace By := By.grown hg8 (by omega)
            replace kqs := off kqs BA8 no_ints2 hg8
            replace kq : IsZ w8 (.agg #[.bool (ngB q), .slice A5 (digs 4294967296 (q).natAbs).length c5]) (q) := ⟨_, rfl, kqs⟩
            replace Bq := Bq.grown hg8 (by omega)
            replace krs := off krs BA8 no_ints2 hg8
            replace kr : IsZ w8 (.agg #[.bool (ngB r), .slice A6 (digs 4294967296 (r).natAbs).length c6]) (r) := ⟨_, rfl, krs⟩
            replace Br := Br.grown hg8 (by omega)
            replace bb := bb.trans ((Below.refl _ _).grown hg8 bb.size (fun g hg => by injection hg with hg; omega))
            have hsz8 := bb.size
            have Bp : Blk w8 (g6) _ _ := BN8
            have kps := q4
            have kp : IsZ w8 (.agg #[.bool (ngB q), .slice A8 (digs 4294967296 (q).natAbs).length c8]) (q) := ⟨_, rfl, kps⟩
            refine ops_assign (i := 8) (.int .i64 0) rfl rfl rfl rfl rfl fun b hbf => ?_
            simp only [Act.put, List.setIfInBounds_toArray, List.set_cons_zero, List.set_cons_succ] at hbf
            subst hbf
            refine ops_done ?_
            obtain ⟨xb0, xb1, _, _⟩ := Blk.two By
            go_upto_region 6 with (fail)
            have lt8_2 := Blk.lt Bx
            have lt8_3 := Blk.lt By
            have lt8_5 := Blk.lt Bq
            have lt8_6 := Blk.lt Br
            have lt8_8 := Blk.lt Bp
            refine flowl 10 [Pd.eq (.agg #[.bool (ngB x), .slice A2 (digs 4294967296 (x).natAbs).length c2]), pr (x), Pd.eq (.agg #[.bool (ngB y), .slice A3 (digs 4294967296 (y).natAbs).length c3]), pr (y), prr (q) (r), prr (q) (r), pr (q), pr (r), pn 30 #[.bool false, .slice none 0 0] w8.heap.size, pn 30 #[.bool false, .slice none 0 0] w8.heap.size] (by kernel_rfl) 7 rfl (by kernel_rfl) (fun _ _ _ _ h => h) (late_extract rfl rfl (ev_dep (j := 5) (by kernel_rfl) rfl rfl) (fun w2 u hu => by obtain ⟨v, u, rfl, q1, q2⟩ := hu; exact ⟨u, fun _ => rfl, q2⟩)) ?ob7 ?done7
            case ob7 =>
              refine And.intro (ob_load rfl (wt_none rfl) (ev_far rfl rfl) (fun w2 hb => run_loadAll Tryd.underlying25 rfl (by kernel_rfl) (Bx.drew.below hb)) (fun _ _ => rfl)) ?_
              refine And.intro (ob_call1 rfl Tryd.func9 (by kernel_rfl) (wt_none rfl) (ev_dep (j := 0) (by kernel_rfl) rfl rfl) (fun w2 u0 hb h0 => by obtain rfl := h0; exact (rof_any _ _ _ (kx.drew.below hb) (Nat.le_trans lx (by decide))).mono fun e w3 h => RetR.pd h)) ?_
              refine And.intro (ob_load rfl (wt_none rfl) (ev_far rfl rfl) (fun w2 hb => run_loadAll Tryd.underlying25 rfl (by kernel_rfl) (By.drew.below hb)) (fun _ _ => rfl)) ?_
              refine And.intro (ob_call1 rfl Tryd.func9 (by kernel_rfl) (wt_none rfl) (ev_dep (j := 2) (by kernel_rfl) rfl rfl) (fun w2 u0 hb h0 => by obtain rfl := h0; exact (rof_any _ _ _ (ky.drew.below hb) (Nat.le_trans ly (by decide))).mono fun e w3 h => RetR.pd h)) ?_
              refine And.intro (ob_call2 rfl Tryd.func35 (by kernel_rfl) (wt_none rfl) (ev_dep (j := 1) (by kernel_rfl) rfl rfl) (ev_dep (j := 3) (by kernel_rfl) rfl rfl) (fun w2 u0 u1 hb h0 h1 => by exact (HQ.out ▸ HR.out ▸ rfloor_any _ _ _ _ _ h0 h1 (Nat.le_trans lx (by decide)) (Nat.le_trans ly (by decide)) hy0).mono fun e w3 h => RetRR.pd h)) ?_
              refine And.intro (ob_move rfl (wt_none rfl) (ev_dep (j := 4) (by kernel_rfl) rfl rfl) (fun _ _ h => h)) ?_
              refine And.intro (ob_extract rfl (wt_none rfl) (ev_dep (j := 5) (by kernel_rfl) rfl rfl) (fun w2 u hu => by obtain ⟨v, u, rfl, q1, q2⟩ := hu; exact ⟨v, rfl, q1⟩)) ?_
              refine And.intro (ob_extract rfl (wt_none rfl) (ev_dep (j := 5) (by kernel_rfl) rfl rfl) (fun w2 u hu => by obtain ⟨v, u, rfl, q1, q2⟩ := hu; exact ⟨u, rfl, q2⟩)) ?_
              refine And.intro (ob_alloc (z := .agg #[.bool false, .slice none 0 0]) rfl rfl (fun _ => by kernel_rfl) (fun _ _ hB h => ⟨_, rfl, hB, h⟩)) ?_
              refine And.intro (ob_alloc (z := .agg #[.bool false, .slice none 0 0]) rfl rfl (fun _ => by kernel_rfl) (fun _ _ hB h => ⟨_, rfl, hB, h⟩)) ?_
              trivial
            case done7 =>
              refine fun w9 hb9 v0 h0 v1 h1 v2 h2 v3 h3 v4 h4 v5 h5 v6 h6 v7 h7 v8 h8 d8 v9 h9 d9 b hbf => ?_
              obtain rfl := h0; obtain rfl := h2
              have q1 := h1
              have q3 := h3
              clear h4
              clear h5
              have q6 := h6
              have q7 := h7
              obtain ⟨g8, rfl, hg8, B8⟩ := h8
              obtain ⟨g9, rfl, hg9, B9⟩ := h9
              simp only [Act.put, List.setIfInBounds_toArray, List.set_cons_zero, List.set_cons_succ] at hbf
              subst hbf
              replace Bx := Bx.below hb9
              replace By := By.below hb9
              replace Bq := Bq.below hb9
              replace Br := Br.below hb9
              replace Bp := Bp.below hb9
              replace kxs := kxs.below hb9
              replace kys := kys.below hb9
              replace kqs := kqs.below hb9
              replace krs := krs.below hb9
              replace kps := kps.below hb9
              replace kx := kx.below hb9
              replace ky := ky.below hb9
              replace kq := kq.below hb9
              replace kr := kr.below hb9
              replace kp := kp.below hb9
              replace bb := bb.trans (hb9.mono bb.size)
              have hsz9 := bb.size
              have BA10 := B8
              have BA11 := B9
              have hne8_9 : g8 ≠ g9 := fun e => d9 (.pointer (some ⟨g8, 0, none⟩)) (by simp) (by rw [e])
              obtain ⟨u6, rfl, q6⟩ := q6
              obtain ⟨A10, c10, rfl, _⟩ := id q6
              obtain ⟨u7, rfl, q7⟩ := q7
              obtain ⟨A11, c11, rfl, _⟩ := id q7
              refine any_store (i := 10) (by kernel_rfl) rfl rfl rfl rfl rfl rfl (cells := [.bool (ngB q), .slice A10 (digs 10000 (q).natAbs).length c10]) rfl BA10 rfl (by kernel_rfl) (one2 rfl rfl) fun w10 hg10 BN10 => ?_
              replace q7 := off q7 BA10 no_ints2 hg10
              replace q6 := off q6 BA10 no_ints2 hg10
              replace kxs := off kxs BA10 no_ints2 hg10
              replace kx : IsZ w10 (.agg #[.bool (ngB x), .slice A2 (digs 4294967296 (x).natAbs).length c2]) (x) := ⟨_, rfl, kxs⟩
              replace Bx := Bx.grown hg10 (by omega)
              replace kys := off kys BA10 no_ints2 hg10
              replace ky : IsZ w10 (.agg #[.bool (ngB y), .slice A3 (digs 4294967296 (y).natAbs).length c3]) (y) := ⟨_, rfl, kys⟩
              replace By := By.grown hg10 (by omega)
              replace kqs := off kqs BA10 no_ints2 hg10
              replace kq : IsZ w10 (.agg #[.bool (ngB q), .slice A5 (digs 4294967296 (q).natAbs).length c5]) (q) := ⟨_, rfl, kqs⟩
              replace Bq := Bq.grown hg10 (by omega)
              replace krs := off krs BA10 no_ints2 hg10
              replace kr : IsZ w10 (.agg #[.bool (ngB r), .slice A6 (digs 4294967296 (r).natAbs).length c6]) (r) := ⟨_, rfl, krs⟩
              replace Br := Br.grown hg10 (by omega)
              replace kps := off kps BA10 no_ints2 hg10
              replace kp : IsZ w10 (.agg #[.bool (ngB q), .slice A8 (digs 4294967296 (q).natAbs).length c8]) (q) := ⟨_, rfl, kps⟩
              replace Bp := Bp.grown hg10 (by omega)
              replace BA11 := BA11.grown hg10 (by omega)
              replace bb := bb.trans ((Below.refl _ _).grown hg10 bb.size (fun g hg => by injection hg with hg; omega))
              have hsz10 := bb.size
              have BX : Blk w10 (g8) _ _ := BN10
              have kXs := q6
              have kX : IsR w10 (.agg #[.bool (ngB q), .slice A10 (digs 10000 (q).natAbs).length c10]) (q) := ⟨_, rfl, kXs⟩
              refine any_store (i := 11) (by kernel_rfl) rfl rfl rfl rfl rfl rfl (cells := [.bool (ngB r), .slice A11 (digs 10000 (r).natAbs).length c11]) rfl BA11 rfl (by kernel_rfl) (one2 rfl rfl) fun w11 hg11 BN11 => ?_
              replace q7 := off q7 BA11 no_ints2 hg11
              replace kxs := off kxs BA11 no_ints2 hg11
              replace kx : IsZ w11 (.agg #[.bool (ngB x), .slice A2 (digs 4294967296 (x).natAbs).length c2]) (x) := ⟨_, rfl, kxs⟩
              replace Bx := Bx.grown hg11 (by omega)
              replace kys := off kys BA11 no_ints2 hg11
              replace ky : IsZ w11 (.agg #[.bool (ngB y), .slice A3 (digs 4294967296 (y).natAbs).length c3]) (y) := ⟨_, rfl, kys⟩
              replace By := By.grown hg11 (by omega)
              replace kqs := off kqs BA11 no_ints2 hg11
              replace kq : IsZ w11 (.agg #[.bool (ngB q), .slice A5 (digs 4294967296 (q).natAbs).length c5]) (q) := ⟨_, rfl, kqs⟩
              replace Bq := Bq.grown hg11 (by omega)
              replace krs := off krs BA11 no_ints2 hg11
              replace kr : IsZ w11 (.agg #[.bool (ngB r), .slice A6 (digs 4294967296 (r).natAbs).length c6]) (r) := ⟨_, rfl, krs⟩
              replace Br := Br.grown hg11 (by omega)
              replace kps := off kps BA11 no_ints2 hg11
              replace kp : IsZ w11 (.agg #[.bool (ngB q), .slice A8 (digs 4294967296 (q).natAbs).length c8]) (q) := ⟨_, rfl, kps⟩
              replace Bp := Bp.grown hg11 (by omega)
              replace kXs := off kXs BA11 no_ints2 hg11
              replace kX : IsR w11 (.agg #[.bool (ngB q), .slice A10 (digs 10000 (q).natAbs).length c10]) (q) := ⟨_, rfl, kXs⟩
              replace BX := BX.grown hg11 (by omega)
              replace bb := bb.trans ((Below.refl _ _).grown hg11 bb.size (fun g hg => by injection hg with hg; omega))
              have hsz11 := bb.size
              have BY : Blk w11 (g9) _ _ := BN11
              have kYs := q7
              have kY : IsR w11 (.agg #[.bool (ngB r), .slice A11 (digs 10000 (r).natAbs).length c11]) (r) := ⟨_, rfl, kYs⟩
              refine any_done (by kernel_rfl) ?_
              go_upto_region 7 with (fail)
              refine flow 16 [Pd.eq (.agg #[.bool (ngB q), .slice A5 (digs 4294967296 (q).natAbs).length c5]), Pd.eq (.agg #[.bool (ngB q), .slice A10 (digs 10000 (q).natAbs).length c10]), pz (q) w11.heap.size, Pd.eq (.bool true), Pd.eq (.bool false), Pd.eq (.bool false), Pd.eq (.agg #[.bool (ngB r), .slice A6 (digs 4294967296 (r).natAbs).length c6]), Pd.eq (.agg #[.bool (ngB r), .slice A11 (digs 10000 (r).natAbs).length c11]), pz (r) w11.heap.size, Pd.eq (.bool true), Pd.eq (.bool false), Pd.eq (.bool false), Pd.eq (.bool false), Pd.eq (.int .i64 0), Pd.eq (.bool false), Pd.eq (.bool false)] (by kernel_rfl) (by kernel_rfl) ?ob8 ?done8
              case ob8 =>
                refine And.intro (ob_load rfl (wt_none rfl) (ev_far rfl rfl) (fun w2 hb => run_loadAll Tryd.underlying25 rfl (by kernel_rfl) (Bq.drew.below hb)) (fun _ _ => rfl)) ?_
                refine And.intro (ob_load rfl (wt_none rfl) (ev_far rfl rfl) (fun w2 hb => run_loadAll Tryd.underlying30 rfl (by kernel_rfl) (BX.drew.below hb)) (fun _ _ => rfl)) ?_
                refine And.intro (ob_call1 rfl Tryd.func12 (by kernel_rfl) (wt_none rfl) (ev_dep (j := 1) (by kernel_rfl) rfl rfl) (fun w2 u0 hb h0 => by obtain rfl := h0; exact (rback_any _ _ _ (kX.drew.below hb) (Nat.le_trans lq (by decide))).mono fun e w3 h => RetZ.pd h hb.size)) ?_
                refine And.intro (ob_call2 rfl Tryd.func10 (by kernel_rfl) (wt_none rfl) (ev_dep (j := 0) (by kernel_rfl) rfl rfl) (ev_dep (j := 2) (by kernel_rfl) rfl rfl) (fun w2 u0 u1 hb h0 h1 => by obtain rfl := h0; exact (zsame_eq _ _ (q) (q) _ (kq.drew.below hb) h1.1 rfl).mono fun e w3 h => RetV.pd h)) ?_
                refine And.intro (ob_un rfl (wt_none rfl) (ev_dep (j := 3) (by kernel_rfl) rfl rfl) (fun _ => un_not _ _) (fun _ => rfl)) ?_
                refine And.intro (ob_move rfl (wt_none rfl) (ev_dep (j := 4) (by kernel_rfl) rfl rfl) (fun _ _ h => h)) ?_
                refine And.intro (ob_load rfl (wt_dep (c := false) (b := false) (g := 5) rfl (by kernel_rfl) rfl rfl rfl (by exact fun _ _ h => h)) (ev_far rfl rfl) (fun w2 hb => run_loadAll Tryd.underlying25 rfl (by kernel_rfl) (Br.drew.below hb)) (fun _ _ => rfl)) ?_
                refine And.intro (ob_load rfl (wt_dep (c := false) (b := false) (g := 5) rfl (by kernel_rfl) rfl rfl rfl (by exact fun _ _ h => h)) (ev_far rfl rfl) (fun w2 hb => run_loadAll Tryd.underlying30 rfl (by kernel_rfl) (BY.drew.below hb)) (fun _ _ => rfl)) ?_
                refine And.intro (ob_call1 rfl Tryd.func12 (by kernel_rfl) (wt_dep (c := false) (b := false) (g := 5) rfl (by kernel_rfl) rfl rfl rfl (by exact fun _ _ h => h)) (ev_dep (j := 7) (by kernel_rfl) rfl rfl) (fun w2 u0 hb h0 => by obtain rfl := h0; exact (rback_any _ _ _ (kY.drew.below hb) (Nat.le_trans lr (by decide))).mono fun e w3 h => RetZ.pd h hb.size)) ?_
                refine And.intro (ob_call2 rfl Tryd.func10 (by kernel_rfl) (wt_dep (c := false) (b := false) (g := 5) rfl (by kernel_rfl) rfl rfl rfl (by exact fun _ _ h => h)) (ev_dep (j := 6) (by kernel_rfl) rfl rfl) (ev_dep (j := 8) (by kernel_rfl) rfl rfl) (fun w2 u0 u1 hb h0 h1 => by obtain rfl := h0; exact (zsame_eq _ _ (r) (r) _ (kr.drew.below hb) h1.1 rfl).mono fun e w3 h => RetV.pd h)) ?_
                refine And.intro (ob_un rfl (wt_dep (c := false) (b := false) (g := 5) rfl (by kernel_rfl) rfl rfl rfl (by exact fun _ _ h => h)) (ev_dep (j := 9) (by kernel_rfl) rfl rfl) (fun _ => un_not _ _) (fun _ => rfl)) ?_
                refine And.intro (ob_pick (b := false) rfl (wt_none rfl) (ev_dep (j := 5) (by kernel_rfl) rfl rfl) (ev_dep (j := 10) (by kernel_rfl) rfl rfl) (fun _ _ h => h)) ?_
                refine And.intro (ob_move rfl (wt_none rfl) (ev_dep (j := 11) (by kernel_rfl) rfl rfl) (fun _ _ h => h)) ?_
                refine And.intro (ob_move rfl (wt_dep (c := false) (b := false) (g := 12) rfl (by kernel_rfl) rfl rfl rfl (by exact fun _ _ h => h)) (ev_far rfl rfl) (fun _ _ h => h)) ?_
                refine And.intro (ob_bin rfl (wt_dep (c := false) (b := false) (g := 12) rfl (by kernel_rfl) rfl rfl rfl (by exact fun _ _ h => h)) (ev_dep (j := 13) (by kernel_rfl) rfl rfl) (ev_const _) (fun _ _ _ hx hy => ⟨.bool ((0 : Int) != 0), by rw [hx, hy]; exact bin_neq_int _ _ _ _ _, congrArg Value.bool (by decide)⟩)) ?_
                refine And.intro (ob_pick (b := false) rfl (wt_none rfl) (ev_dep (j := 12) (by kernel_rfl) rfl rfl) (ev_dep (j := 14) (by kernel_rfl) rfl rfl) (fun _ _ h => h)) ?_
                trivial
              case done8 =>
                refine fun w12 hb12 v0 h0 v1 h1 v2 h2 v3 h3 v4 h4 v5 h5 v6 h6 v7 h7 v8 h8 v9 h9 v10 h10 v11 h11 v12 h12 v13 h13 v14 h14 v15 h15 b hbf => ?_
                obtain rfl := h0; obtain rfl := h1; obtain rfl := h3; obtain rfl := h4; obtain rfl := h5; obtain rfl := h6; obtain rfl := h7; obtain rfl := h9; obtain rfl := h10; obtain rfl := h11; obtain rfl := h12; obtain rfl := h13; obtain rfl := h14; obtain rfl := h15
                obtain ⟨q2, f2⟩ := h2
                obtain ⟨q8, f8⟩ := h8
                simp only [Act.put, List.setIfInBounds_toArray, List.set_cons_zero, List.set_cons_succ] at hbf
                subst hbf
                replace Bx := Bx.below hb12
                replace By := By.below hb12
                replace Bq := Bq.below hb12
                replace Br := Br.below hb12
                replace Bp := Bp.below hb12
                replace BX := BX.below hb12
                replace BY := BY.below hb12
                replace kxs := kxs.below hb12
                replace kys := kys.below hb12
                replace kqs := kqs.below hb12
                replace krs := krs.below hb12
                replace kps := kps.below hb12
                replace kXs := kXs.below hb12
                replace kYs := kYs.below hb12
                replace kx := kx.below hb12
                replace ky := ky.below hb12
                replace kq := kq.below hb12
                replace kr := kr.below hb12
                replace kp := kp.below hb12
                replace kX := kX.below hb12
                replace kY := kY.below hb12
                replace bb := bb.trans (hb12.mono bb.size)
                have hsz12 := bb.size
                refine any_done (by kernel_rfl) ?_
                go_upto_region 9 with (fail)
                refine flowp 3 [Pd.eq (.agg #[.bool (ngB r), .slice A11 (digs 10000 (r).natAbs).length c11]), Pd.eq (.int .i64 0), Pd.eq (.bool false)] (by kernel_rfl) ?ob9 ?done9
                case ob9 =>
                  refine And.intro (ob_load rfl (wt_none rfl) (ev_far rfl rfl) (fun w2 hb => run_loadAll Tryd.underlying30 rfl (by kernel_rfl) (BY.below hb)) (fun _ _ => rfl)) ?_
                  refine And.intro (ob_call1 rfl Tryd.func23 (by kernel_rfl) (wt_none rfl) (ev_dep (j := 0) (by kernel_rfl) rfl rfl) (fun w2 u0 hb h0 => by obtain rfl := h0; exact (rsign_any _ _ _ _ (kY.below hb) (by rw [hr0]; rfl)).mono fun e w3 h => RetV.pd h)) ?_
                  refine And.intro (ob_bin rfl (wt_none rfl) (ev_dep (j := 1) (by kernel_rfl) rfl rfl) (ev_const _) (fun _ _ _ hx hy => ⟨.bool ((0 : Int) != 0), by rw [hx, hy]; exact bin_neq_int _ _ _ _ _, congrArg Value.bool (by decide)⟩)) ?_
                  trivial
                case done9 =>
                  refine fun w13 hb13 v0 h0 v1 h1 v2 h2 b hbf => ?_
                  obtain rfl := h0; obtain rfl := h1; obtain rfl := h2
                  simp only [Act.put, List.setIfInBounds_toArray, List.set_cons_zero, List.set_cons_succ] at hbf
                  subst hbf
                  replace Bx := Bx.below hb13
                  replace By := By.below hb13
                  replace Bq := Bq.below hb13
                  replace Br := Br.below hb13
                  replace Bp := Bp.below hb13
                  replace BX := BX.below hb13
                  replace BY := BY.below hb13
                  replace kxs := kxs.below hb13
                  replace kys := kys.below hb13
                  replace kqs := kqs.below hb13
                  replace krs := krs.below hb13
                  replace kps := kps.below hb13
                  replace kXs := kXs.below hb13
                  replace kYs := kYs.below hb13
                  replace kx := kx.below hb13
                  replace ky := ky.below hb13
                  replace kq := kq.below hb13
                  replace kr := kr.below hb13
                  replace kp := kp.below hb13
                  replace kX := kX.below hb13
                  replace kY := kY.below hb13
                  replace bb := bb.trans (hb13.mono bb.size)
                  have hsz13 := bb.size
                  refine ops_done ?_
                  go_upto_region 11 with (fail)
                  refine flowp 11 [Pd.eq (.int .i64 0), Pd.eq (.bool true), Pd.eq (.bool true), Pd.eq (.agg #[.bool (ngB q), .slice A8 (digs 4294967296 (q).natAbs).length c8]), Pd.eq (.agg #[.bool (ngB q), .slice A5 (digs 4294967296 (q).natAbs).length c5]), Pd.eq (.bool true), Pd.eq (.bool true), Pd.eq (.bool true), Pd.eq (.bool true), Pd.eq (.bool true), Pd.eq (.bool true)] (by kernel_rfl) ?ob10 ?done10
                  case ob10 =>
                    refine And.intro (ob_move rfl (wt_none rfl) (ev_far rfl rfl) (fun _ _ h => h)) ?_
                    refine And.intro (ob_bin rfl (wt_none rfl) (ev_dep (j := 0) (by kernel_rfl) rfl rfl) (ev_const _) (fun _ _ _ hx hy => ⟨.bool ((0 : Int) == 0), by rw [hx, hy]; exact bin_eql_int _ _ _ _ _, congrArg Value.bool (by decide)⟩)) ?_
                    refine And.intro (ob_move rfl (wt_none rfl) (ev_dep (j := 1) (by kernel_rfl) rfl rfl) (fun _ _ h => h)) ?_
                    refine And.intro (ob_load rfl (wt_dep (c := true) (b := true) (g := 2) rfl (by kernel_rfl) rfl rfl rfl (by exact fun _ _ h => h)) (ev_far rfl rfl) (fun w2 hb => run_loadAll Tryd.underlying25 rfl (by kernel_rfl) (Bp.below hb)) (fun _ _ => rfl)) ?_
                    refine And.intro (ob_load rfl (wt_dep (c := true) (b := true) (g := 2) rfl (by kernel_rfl) rfl rfl rfl (by exact fun _ _ h => h)) (ev_far rfl rfl) (fun w2 hb => run_loadAll Tryd.underlying25 rfl (by kernel_rfl) (Bq.below hb)) (fun _ _ => rfl)) ?_
                    refine And.intro (ob_call2 rfl Tryd.func10 (by kernel_rfl) (wt_dep (c := true) (b := true) (g := 2) rfl (by kernel_rfl) rfl rfl rfl (by exact fun _ _ h => h)) (ev_dep (j := 3) (by kernel_rfl) rfl rfl) (ev_dep (j := 4) (by kernel_rfl) rfl rfl) (fun w2 u0 u1 hb h0 h1 => by obtain rfl := h0; obtain rfl := h1; exact (zsame_eq _ _ (q) (q) _ (kp.below hb) (kq.below hb) rfl).mono fun e w3 h => RetV.pd h)) ?_
                    refine And.intro (ob_pick (b := true) rfl (wt_none rfl) (ev_dep (j := 2) (by kernel_rfl) rfl rfl) (ev_dep (j := 5) (by kernel_rfl) rfl rfl) (fun _ _ h => h)) ?_
                    refine And.intro (ob_move rfl (wt_none rfl) (ev_dep (j := 6) (by kernel_rfl) rfl rfl) (fun _ _ h => h)) ?_
                    refine And.intro (ob_call0 rfl Tryd.func24 (by kernel_rfl) (wt_dep (c := true) (b := true) (g := 7) rfl (by kernel_rfl) rfl rfl rfl (by exact fun _ _ h => h)) (fun w2 hb => (works7_any _).mono fun e w3 h => RetV.pd h)) ?_
                    refine And.intro (ob_pick (b := true) rfl (wt_none rfl) (ev_dep (j := 7) (by kernel_rfl) rfl rfl) (ev_dep (j := 8) (by kernel_rfl) rfl rfl) (fun _ _ h => h)) ?_
                    refine And.intro (ob_assign rfl (wt_none rfl) (ev_dep (j := 9) (by kernel_rfl) rfl rfl) (fun _ _ h => h)) ?_
                    trivial
                  case done10 =>
                    refine fun w14 hb14 v0 h0 v1 h1 v2 h2 v3 h3 v4 h4 v5 h5 v6 h6 v7 h7 v8 h8 v9 h9 v10 h10 b hbf => ?_
                    obtain rfl := h0; obtain rfl := h1; obtain rfl := h2; obtain rfl := h3; obtain rfl := h4; obtain rfl := h5; obtain rfl := h6; obtain rfl := h7; obtain rfl := h8; obtain rfl := h9; obtain rfl := h10
                    simp only [Act.put, List.setIfInBounds_toArray, List.set_cons_zero, List.set_cons_succ] at hbf
                    subst hbf
                    replace Bx := Bx.below hb14
                    replace By := By.below hb14
                    replace Bq := Bq.below hb14
                    replace Br := Br.below hb14
                    replace Bp := Bp.below hb14
                    replace BX := BX.below hb14
                    replace BY := BY.below hb14
                    replace kxs := kxs.below hb14
                    replace kys := kys.below hb14
                    replace kqs := kqs.below hb14
                    replace krs := krs.below hb14
                    replace kps := kps.below hb14
                    replace kXs := kXs.below hb14
                    replace kYs := kYs.below hb14
                    replace kx := kx.below hb14
                    replace ky := ky.below hb14
                    replace kq := kq.below hb14
                    replace kr := kr.below hb14
                    replace kp := kp.below hb14
                    replace kX := kX.below hb14
                    replace kY := kY.below hb14
                    replace bb := bb.trans (hb14.mono bb.size)
                    have hsz14 := bb.size
                    refine ops_done ?_
                    go_wp2
                    go_ret
                    exact ⟨rfl, bb⟩
        · go_upto_region 3 with (fail)
          have lt6_2 := Blk.lt Bx
          have lt6_3 := Blk.lt By
          have lt6_5 := Blk.lt Bq
          have lt6_6 := Blk.lt Br
          refine flowp 7 [Pd.eq (.agg #[.bool (ngB x), .slice A2 (digs 4294967296 (x).natAbs).length c2]), Pd.eq (.agg #[.bool (ngB y), .slice A3 (digs 4294967296 (y).natAbs).length c3]), pze ((0 : Int)) 4 w6.heap.size, pze ((0 : Int)) 4 w6.heap.size, pz ((0 : Int)) w6.heap.size, Pd.eq (.int .i64 4), pn 25 #[.bool false, .slice none 0 0] w6.heap.size] (by kernel_rfl) ?ob11 ?done11
          case ob11 =>
            refine And.intro (ob_load rfl (wt_none rfl) (ev_far rfl rfl) (fun w2 hb => run_loadAll Tryd.underlying25 rfl (by kernel_rfl) (Bx.below hb)) (fun _ _ => rfl)) ?_
            refine And.intro (ob_load rfl (wt_none rfl) (ev_far rfl rfl) (fun w2 hb => run_loadAll Tryd.underlying25 rfl (by kernel_rfl) (By.below hb)) (fun _ _ => rfl)) ?_
            refine And.intro (ob_call2 rfl Tryd.func34 (by kernel_rfl) (wt_none rfl) (ev_dep (j := 0) (by kernel_rfl) rfl rfl) (ev_dep (j := 1) (by kernel_rfl) rfl rfl) (fun w2 u0 u1 hb h0 h1 => by obtain rfl := h0; obtain rfl := h1; exact (zexact_rest _ _ _ _ _ (kx.below hb) (ky.below hb) (Nat.le_trans lx (by decide)) (Nat.le_trans ly (by decide)) hy0 (fun h => hr0 (HRm.out.2 h))).mono fun e w3 h => RetZE.pd h hb.size)) ?_
            refine And.intro (ob_move rfl (wt_none rfl) (ev_dep (j := 2) (by kernel_rfl) rfl rfl) (fun _ _ h => h)) ?_
            refine And.intro (ob_extract rfl (wt_none rfl) (ev_dep (j := 3) (by kernel_rfl) rfl rfl) (fun w2 u hu => by obtain ⟨v, rfl, q1, q2⟩ := hu; exact ⟨v, rfl, q1, q2⟩)) ?_
            refine And.intro (ob_extract rfl (wt_none rfl) (ev_dep (j := 3) (by kernel_rfl) rfl rfl) (fun w2 u hu => by obtain ⟨v, rfl, q1, q2⟩ := hu; exact ⟨_, rfl, rfl⟩)) ?_
            refine And.intro (ob_alloc (z := .agg #[.bool false, .slice none 0 0]) rfl rfl (fun _ => by kernel_rfl) (fun _ _ hB h => ⟨_, rfl, hB, h⟩)) ?_
            trivial
          case done11 =>
            refine fun w7 hb7 v0 h0 v1 h1 v2 h2 v3 h3 v4 h4 v5 h5 v6 h6 d6 b hbf => ?_
            obtain rfl := h0; obtain rfl := h1; obtain rfl := h5
            clear h2
            clear h3
            obtain ⟨q4, f4⟩ := h4
            obtain ⟨g6, rfl, hg6, B6⟩ := h6
            simp only [Act.put, List.setIfInBounds_toArray, List.set_cons_zero, List.set_cons_succ] at hbf
            subst hbf
            replace Bx := Bx.below hb7
            replace By := By.below hb7
            replace Bq := Bq.below hb7
            replace Br := Br.below hb7
            replace kxs := kxs.below hb7
            replace kys := kys.below hb7
            replace kqs := kqs.below hb7
            replace krs := krs.below hb7
            replace kx := kx.below hb7
            replace ky := ky.below hb7
            replace kq := kq.below hb7
            replace kr := kr.below hb7
            replace bb := bb.trans (hb7.mono bb.size)
            have hsz7 := bb.size
            have BA8 := B6
            obtain ⟨u4, rfl, q4⟩ := q4
            obtain ⟨A8, c8, rfl, _⟩ := id q4
            refine ops_store (i := 7) rfl rfl rfl rfl rfl rfl (cells := [.bool (ngB (0 : Int)), .slice A8 (digs 4294967296 ((0 : Int)).natAbs).length c8]) rfl BA8 rfl (by kernel_rfl) (one2 rfl rfl) fun w8 hg8 BN8 => ?_
            replace q4 := off q4 BA8 no_ints2 hg8
            replace kxs := off kxs BA8 no_ints2 hg8
            replace kx : IsZ w8 (.agg #[.bool (ngB x), .slice A2 (digs 4294967296 (x).natAbs).length c2]) (x) := ⟨_, rfl, kxs⟩
            replace Bx := Bx.grown hg8 (by omega)
            replace kys := off kys BA8 no_ints2 hg8
            replace ky : IsZ w8 (.agg #[.bool (ngB y), .slice A3 (digs 4294967296 (y).natAbs).length c3]) (y) := ⟨_, rfl, kys⟩
            replace By := By.grown hg8 (by omega)
            replace kqs := off kqs BA8 no_ints2 hg8
            replace kq : IsZ w8 (.agg #[.bool (ngB q), .slice A5 (digs 4294967296 (q).natAbs).length c5]) (q) := ⟨_, rfl, kqs⟩
            replace Bq := Bq.grown hg8 (by omega)
            replace krs := off krs BA8 no_ints2 hg8
            replace kr : IsZ w8 (.agg #[.bool (ngB r), .slice A6 (digs 4294967296 (r).natAbs).length c6]) (r) := ⟨_, rfl, krs⟩
            replace Br := Br.grown hg8 (by omega)
            replace bb := bb.trans ((Below.refl _ _).grown hg8 bb.size (fun g hg => by injection hg with hg; omega))
            have hsz8 := bb.size
            have Bp : Blk w8 (g6) _ _ := BN8
            have kps := q4
            have kp : IsZ w8 (.agg #[.bool (ngB (0 : Int)), .slice A8 (digs 4294967296 ((0 : Int)).natAbs).length c8]) ((0 : Int)) := ⟨_, rfl, kps⟩
            refine ops_assign (i := 8) (.int .i64 4) rfl rfl rfl rfl rfl fun b hbf => ?_
            simp only [Act.put, List.setIfInBounds_toArray, List.set_cons_zero, List.set_cons_succ] at hbf
            subst hbf
            refine ops_done ?_
            obtain ⟨xb0, xb1, _, _⟩ := Blk.two By
            go_upto_region 6 with (fail)
            have lt8_2 := Blk.lt Bx
            have lt8_3 := Blk.lt By
            have lt8_5 := Blk.lt Bq
            have lt8_6 := Blk.lt Br
            have lt8_8 := Blk.lt Bp
            refine flowl 10 [Pd.eq (.agg #[.bool (ngB x), .slice A2 (digs 4294967296 (x).natAbs).length c2]), pr (x), Pd.eq (.agg #[.bool (ngB y), .slice A3 (digs 4294967296 (y).natAbs).length c3]), pr (y), prr (q) (r), prr (q) (r), pr (q), pr (r), pn 30 #[.bool false, .slice none 0 0] w8.heap.size, pn 30 #[.bool false, .slice none 0 0] w8.heap.size] (by kernel_rfl) 7 rfl (by kernel_rfl) (fun _ _ _ _ h => h) (late_extract rfl rfl (ev_dep (j := 5) (by kernel_rfl) rfl rfl) (fun w2 u hu => by obtain ⟨v, u, rfl, q1, q2⟩ := hu; exact ⟨u, fun _ => rfl, q2⟩)) ?ob12 ?done12
            case ob12 =>
              refine And.intro (ob_load rfl (wt_none rfl) (ev_far rfl rfl) (fun w2 hb => run_loadAll Tryd.underlying25 rfl (by kernel_rfl) (Bx.drew.below hb)) (fun _ _ => rfl)) ?_
              refine And.intro (ob_call1 rfl Tryd.func9 (by kernel_rfl) (wt_none rfl) (ev_dep (j := 0) (by kernel_rfl) rfl rfl) (fun w2 u0 hb h0 => by obtain rfl := h0; exact (rof_any _ _ _ (kx.drew.below hb) (Nat.le_trans lx (by decide))).mono fun e w3 h => RetR.pd h)) ?_
              refine And.intro (ob_load rfl (wt_none rfl) (ev_far rfl rfl) (fun w2 hb => run_loadAll Tryd.underlying25 rfl (by kernel_rfl) (By.drew.below hb)) (fun _ _ => rfl)) ?_
              refine And.intro (ob_call1 rfl Tryd.func9 (by kernel_rfl) (wt_none rfl) (ev_dep (j := 2) (by kernel_rfl) rfl rfl) (fun w2 u0 hb h0 => by obtain rfl := h0; exact (rof_any _ _ _ (ky.drew.below hb) (Nat.le_trans ly (by decide))).mono fun e w3 h => RetR.pd h)) ?_
              refine And.intro (ob_call2 rfl Tryd.func35 (by kernel_rfl) (wt_none rfl) (ev_dep (j := 1) (by kernel_rfl) rfl rfl) (ev_dep (j := 3) (by kernel_rfl) rfl rfl) (fun w2 u0 u1 hb h0 h1 => by exact (HQ.out ▸ HR.out ▸ rfloor_any _ _ _ _ _ h0 h1 (Nat.le_trans lx (by decide)) (Nat.le_trans ly (by decide)) hy0).mono fun e w3 h => RetRR.pd h)) ?_
              refine And.intro (ob_move rfl (wt_none rfl) (ev_dep (j := 4) (by kernel_rfl) rfl rfl) (fun _ _ h => h)) ?_
              refine And.intro (ob_extract rfl (wt_none rfl) (ev_dep (j := 5) (by kernel_rfl) rfl rfl) (fun w2 u hu => by obtain ⟨v, u, rfl, q1, q2⟩ := hu; exact ⟨v, rfl, q1⟩)) ?_
              refine And.intro (ob_extract rfl (wt_none rfl) (ev_dep (j := 5) (by kernel_rfl) rfl rfl) (fun w2 u hu => by obtain ⟨v, u, rfl, q1, q2⟩ := hu; exact ⟨u, rfl, q2⟩)) ?_
              refine And.intro (ob_alloc (z := .agg #[.bool false, .slice none 0 0]) rfl rfl (fun _ => by kernel_rfl) (fun _ _ hB h => ⟨_, rfl, hB, h⟩)) ?_
              refine And.intro (ob_alloc (z := .agg #[.bool false, .slice none 0 0]) rfl rfl (fun _ => by kernel_rfl) (fun _ _ hB h => ⟨_, rfl, hB, h⟩)) ?_
              trivial
            case done12 =>
              refine fun w9 hb9 v0 h0 v1 h1 v2 h2 v3 h3 v4 h4 v5 h5 v6 h6 v7 h7 v8 h8 d8 v9 h9 d9 b hbf => ?_
              obtain rfl := h0; obtain rfl := h2
              have q1 := h1
              have q3 := h3
              clear h4
              clear h5
              have q6 := h6
              have q7 := h7
              obtain ⟨g8, rfl, hg8, B8⟩ := h8
              obtain ⟨g9, rfl, hg9, B9⟩ := h9
              simp only [Act.put, List.setIfInBounds_toArray, List.set_cons_zero, List.set_cons_succ] at hbf
              subst hbf
              replace Bx := Bx.below hb9
              replace By := By.below hb9
              replace Bq := Bq.below hb9
              replace Br := Br.below hb9
              replace Bp := Bp.below hb9
              replace kxs := kxs.below hb9
              replace kys := kys.below hb9
              replace kqs := kqs.below hb9
              replace krs := krs.below hb9
              replace kps := kps.below hb9
              replace kx := kx.below hb9
              replace ky := ky.below hb9
              replace kq := kq.below hb9
              replace kr := kr.below hb9
              replace kp := kp.below hb9
              replace bb := bb.trans (hb9.mono bb.size)
              have hsz9 := bb.size
              have BA10 := B8
              have BA11 := B9
              have hne8_9 : g8 ≠ g9 := fun e => d9 (.pointer (some ⟨g8, 0, none⟩)) (by simp) (by rw [e])
              obtain ⟨u6, rfl, q6⟩ := q6
              obtain ⟨A10, c10, rfl, _⟩ := id q6
              obtain ⟨u7, rfl, q7⟩ := q7
              obtain ⟨A11, c11, rfl, _⟩ := id q7
              refine any_store (i := 10) (by kernel_rfl) rfl rfl rfl rfl rfl rfl (cells := [.bool (ngB q), .slice A10 (digs 10000 (q).natAbs).length c10]) rfl BA10 rfl (by kernel_rfl) (one2 rfl rfl) fun w10 hg10 BN10 => ?_
              replace q7 := off q7 BA10 no_ints2 hg10
              replace q6 := off q6 BA10 no_ints2 hg10
              replace kxs := off kxs BA10 no_ints2 hg10
              replace kx : IsZ w10 (.agg #[.bool (ngB x), .slice A2 (digs 4294967296 (x).natAbs).length c2]) (x) := ⟨_, rfl, kxs⟩
              replace Bx := Bx.grown hg10 (by omega)
              replace kys := off kys BA10 no_ints2 hg10
              replace ky : IsZ w10 (.agg #[.bool (ngB y), .slice A3 (digs 4294967296 (y).natAbs).length c3]) (y) := ⟨_, rfl, kys⟩
              replace By := By.grown hg10 (by omega)
              replace kqs := off kqs BA10 no_ints2 hg10
              replace kq : IsZ w10 (.agg #[.bool (ngB q), .slice A5 (digs 4294967296 (q).natAbs).length c5]) (q) := ⟨_, rfl, kqs⟩
              replace Bq := Bq.grown hg10 (by omega)
              replace krs := off krs BA10 no_ints2 hg10
              replace kr : IsZ w10 (.agg #[.bool (ngB r), .slice A6 (digs 4294967296 (r).natAbs).length c6]) (r) := ⟨_, rfl, krs⟩
              replace Br := Br.grown hg10 (by omega)
              replace kps := off kps BA10 no_ints2 hg10
              replace kp : IsZ w10 (.agg #[.bool (ngB (0 : Int)), .slice A8 (digs 4294967296 ((0 : Int)).natAbs).length c8]) ((0 : Int)) := ⟨_, rfl, kps⟩
              replace Bp := Bp.grown hg10 (by omega)
              replace BA11 := BA11.grown hg10 (by omega)
              replace bb := bb.trans ((Below.refl _ _).grown hg10 bb.size (fun g hg => by injection hg with hg; omega))
              have hsz10 := bb.size
              have BX : Blk w10 (g8) _ _ := BN10
              have kXs := q6
              have kX : IsR w10 (.agg #[.bool (ngB q), .slice A10 (digs 10000 (q).natAbs).length c10]) (q) := ⟨_, rfl, kXs⟩
              refine any_store (i := 11) (by kernel_rfl) rfl rfl rfl rfl rfl rfl (cells := [.bool (ngB r), .slice A11 (digs 10000 (r).natAbs).length c11]) rfl BA11 rfl (by kernel_rfl) (one2 rfl rfl) fun w11 hg11 BN11 => ?_
              replace q7 := off q7 BA11 no_ints2 hg11
              replace kxs := off kxs BA11 no_ints2 hg11
              replace kx : IsZ w11 (.agg #[.bool (ngB x), .slice A2 (digs 4294967296 (x).natAbs).length c2]) (x) := ⟨_, rfl, kxs⟩
              replace Bx := Bx.grown hg11 (by omega)
              replace kys := off kys BA11 no_ints2 hg11
              replace ky : IsZ w11 (.agg #[.bool (ngB y), .slice A3 (digs 4294967296 (y).natAbs).length c3]) (y) := ⟨_, rfl, kys⟩
              replace By := By.grown hg11 (by omega)
              replace kqs := off kqs BA11 no_ints2 hg11
              replace kq : IsZ w11 (.agg #[.bool (ngB q), .slice A5 (digs 4294967296 (q).natAbs).length c5]) (q) := ⟨_, rfl, kqs⟩
              replace Bq := Bq.grown hg11 (by omega)
              replace krs := off krs BA11 no_ints2 hg11
              replace kr : IsZ w11 (.agg #[.bool (ngB r), .slice A6 (digs 4294967296 (r).natAbs).length c6]) (r) := ⟨_, rfl, krs⟩
              replace Br := Br.grown hg11 (by omega)
              replace kps := off kps BA11 no_ints2 hg11
              replace kp : IsZ w11 (.agg #[.bool (ngB (0 : Int)), .slice A8 (digs 4294967296 ((0 : Int)).natAbs).length c8]) ((0 : Int)) := ⟨_, rfl, kps⟩
              replace Bp := Bp.grown hg11 (by omega)
              replace kXs := off kXs BA11 no_ints2 hg11
              replace kX : IsR w11 (.agg #[.bool (ngB q), .slice A10 (digs 10000 (q).natAbs).length c10]) (q) := ⟨_, rfl, kXs⟩
              replace BX := BX.grown hg11 (by omega)
              replace bb := bb.trans ((Below.refl _ _).grown hg11 bb.size (fun g hg => by injection hg with hg; omega))
              have hsz11 := bb.size
              have BY : Blk w11 (g9) _ _ := BN11
              have kYs := q7
              have kY : IsR w11 (.agg #[.bool (ngB r), .slice A11 (digs 10000 (r).natAbs).length c11]) (r) := ⟨_, rfl, kYs⟩
              refine any_done (by kernel_rfl) ?_
              go_upto_region 7 with (fail)
              refine flow 16 [Pd.eq (.agg #[.bool (ngB q), .slice A5 (digs 4294967296 (q).natAbs).length c5]), Pd.eq (.agg #[.bool (ngB q), .slice A10 (digs 10000 (q).natAbs).length c10]), pz (q) w11.heap.size, Pd.eq (.bool true), Pd.eq (.bool false), Pd.eq (.bool false), Pd.eq (.agg #[.bool (ngB r), .slice A6 (digs 4294967296 (r).natAbs).length c6]), Pd.eq (.agg #[.bool (ngB r), .slice A11 (digs 10000 (r).natAbs).length c11]), pz (r) w11.heap.size, Pd.eq (.bool true), Pd.eq (.bool false), Pd.eq (.bool false), Pd.eq (.bool false), Pd.eq (.int .i64 0), Pd.eq (.bool false), Pd.eq (.bool false)] (by kernel_rfl) (by kernel_rfl) ?ob13 ?done13
              case ob13 =>
                refine And.intro (ob_load rfl (wt_none rfl) (ev_far rfl rfl) (fun w2 hb => run_loadAll Tryd.underlying25 rfl (by kernel_rfl) (Bq.drew.below hb)) (fun _ _ => rfl)) ?_
                refine And.intro (ob_load rfl (wt_none rfl) (ev_far rfl rfl) (fun w2 hb => run_loadAll Tryd.underlying30 rfl (by kernel_rfl) (BX.drew.below hb)) (fun _ _ => rfl)) ?_
                refine And.intro (ob_call1 rfl Tryd.func12 (by kernel_rfl) (wt_none rfl) (ev_dep (j := 1) (by kernel_rfl) rfl rfl) (fun w2 u0 hb h0 => by obtain rfl := h0; exact (rback_any _ _ _ (kX.drew.below hb) (Nat.le_trans lq (by decide))).mono fun e w3 h => RetZ.pd h hb.size)) ?_
                refine And.intro (ob_call2 rfl Tryd.func10 (by kernel_rfl) (wt_none rfl) (ev_dep (j := 0) (by kernel_rfl) rfl rfl) (ev_dep (j := 2) (by kernel_rfl) rfl rfl) (fun w2 u0 u1 hb h0 h1 => by obtain rfl := h0; exact (zsame_eq _ _ (q) (q) _ (kq.drew.below hb) h1.1 rfl).mono fun e w3 h => RetV.pd h)) ?_
                refine And.intro (ob_un rfl (wt_none rfl) (ev_dep (j := 3) (by kernel_rfl) rfl rfl) (fun _ => un_not _ _) (fun _ => rfl)) ?_
                refine And.intro (ob_move rfl (wt_none rfl) (ev_dep (j := 4) (by kernel_rfl) rfl rfl) (fun _ _ h => h)) ?_
                refine And.intro (ob_load rfl (wt_dep (c := false) (b := false) (g := 5) rfl (by kernel_rfl) rfl rfl rfl (by exact fun _ _ h => h)) (ev_far rfl rfl) (fun w2 hb => run_loadAll Tryd.underlying25 rfl (by kernel_rfl) (Br.drew.below hb)) (fun _ _ => rfl)) ?_
                refine And.intro (ob_load rfl (wt_dep (c := false) (b := false) (g := 5) rfl (by kernel_rfl) rfl rfl rfl (by exact fun _ _ h => h)) (ev_far rfl rfl) (fun w2 hb => run_loadAll Tryd.underlying30 rfl (by kernel_rfl) (BY.drew.below hb)) (fun _ _ => rfl)) ?_
                refine And.intro (ob_call1 rfl Tryd.func12 (by kernel_rfl) (wt_dep (c := false) (b := false) (g := 5) rfl (by kernel_rfl) rfl rfl rfl (by exact fun _ _ h => h)) (ev_dep (j := 7) (by kernel_rfl) rfl rfl) (fun w2 u0 hb h0 => by obtain rfl := h0; exact (rback_any _ _ _ (kY.drew.below hb) (Nat.le_trans lr (by decide))).mono fun e w3 h => RetZ.pd h hb.size)) ?_
                refine And.intro (ob_call2 rfl Tryd.func10 (by kernel_rfl) (wt_dep (c := false) (b := false) (g := 5) rfl (by kernel_rfl) rfl rfl rfl (by exact fun _ _ h => h)) (ev_dep (j := 6) (by kernel_rfl) rfl rfl) (ev_dep (j := 8) (by kernel_rfl) rfl rfl) (fun w2 u0 u1 hb h0 h1 => by obtain rfl := h0; exact (zsame_eq _ _ (r) (r) _ (kr.drew.below hb) h1.1 rfl).mono fun e w3 h => RetV.pd h)) ?_
                refine And.intro (ob_un rfl (wt_dep (c := false) (b := false) (g := 5) rfl (by kernel_rfl) rfl rfl rfl (by exact fun _ _ h => h)) (ev_dep (j := 9) (by kernel_rfl) rfl rfl) (fun _ => un_not _ _) (fun _ => rfl)) ?_
                refine And.intro (ob_pick (b := false) rfl (wt_none rfl) (ev_dep (j := 5) (by kernel_rfl) rfl rfl) (ev_dep (j := 10) (by kernel_rfl) rfl rfl) (fun _ _ h => h)) ?_
                refine And.intro (ob_move rfl (wt_none rfl) (ev_dep (j := 11) (by kernel_rfl) rfl rfl) (fun _ _ h => h)) ?_
                refine And.intro (ob_move rfl (wt_dep (c := false) (b := false) (g := 12) rfl (by kernel_rfl) rfl rfl rfl (by exact fun _ _ h => h)) (ev_far rfl rfl) (fun _ _ h => h)) ?_
                refine And.intro (ob_bin rfl (wt_dep (c := false) (b := false) (g := 12) rfl (by kernel_rfl) rfl rfl rfl (by exact fun _ _ h => h)) (ev_dep (j := 13) (by kernel_rfl) rfl rfl) (ev_const _) (fun _ _ _ hx hy => ⟨.bool ((0 : Int) != 0), by rw [hx, hy]; exact bin_neq_int _ _ _ _ _, congrArg Value.bool (by decide)⟩)) ?_
                refine And.intro (ob_pick (b := false) rfl (wt_none rfl) (ev_dep (j := 12) (by kernel_rfl) rfl rfl) (ev_dep (j := 14) (by kernel_rfl) rfl rfl) (fun _ _ h => h)) ?_
                trivial
              case done13 =>
                refine fun w12 hb12 v0 h0 v1 h1 v2 h2 v3 h3 v4 h4 v5 h5 v6 h6 v7 h7 v8 h8 v9 h9 v10 h10 v11 h11 v12 h12 v13 h13 v14 h14 v15 h15 b hbf => ?_
                obtain rfl := h0; obtain rfl := h1; obtain rfl := h3; obtain rfl := h4; obtain rfl := h5; obtain rfl := h6; obtain rfl := h7; obtain rfl := h9; obtain rfl := h10; obtain rfl := h11; obtain rfl := h12; obtain rfl := h13; obtain rfl := h14; obtain rfl := h15
                obtain ⟨q2, f2⟩ := h2
                obtain ⟨q8, f8⟩ := h8
                simp only [Act.put, List.setIfInBounds_toArray, List.set_cons_zero, List.set_cons_succ] at hbf
                subst hbf
                replace Bx := Bx.below hb12
                replace By := By.below hb12
                replace Bq := Bq.below hb12
                replace Br := Br.below hb12
                replace Bp := Bp.below hb12
                replace BX := BX.below hb12
                replace BY := BY.below hb12
                replace kxs := kxs.below hb12
                replace kys := kys.below hb12
                replace kqs := kqs.below hb12
                replace krs := krs.below hb12
                replace kps := kps.below hb12
                replace kXs := kXs.below hb12
                replace kYs := kYs.below hb12
                replace kx := kx.below hb12
                replace ky := ky.below hb12
                replace kq := kq.below hb12
                replace kr := kr.below hb12
                replace kp := kp.below hb12
                replace kX := kX.below hb12
                replace kY := kY.below hb12
                replace bb := bb.trans (hb12.mono bb.size)
                have hsz12 := bb.size
                refine any_done (by kernel_rfl) ?_
                obtain ⟨T, hT⟩ : ∃ T, T = ordz r 0 := ⟨_, rfl⟩
                have hT0 : (T != 0) = true := by rw [hT, bne_iff_ne]; unfold ordz; (repeat' split) <;> omega
                have HT := Lib.hid hT
                clear hT
                have HLZ : Hid ((digs 4294967296 (0 : Int).natAbs).length = 0) := by show _ = _; rw [Int.natAbs_zero, digs_zero]; rfl
                go_upto_region 9 with (fail)
                refine flowp 3 [Pd.eq (.agg #[.bool (ngB r), .slice A11 (digs 10000 (r).natAbs).length c11]), Pd.eq (.int .i64 T), Pd.eq (.bool (T != 0))] (by kernel_rfl) ?ob14 ?done14
                case ob14 =>
                  refine And.intro (ob_load rfl (wt_none rfl) (ev_far rfl rfl) (fun w2 hb => run_loadAll Tryd.underlying30 rfl (by kernel_rfl) (BY.below hb)) (fun _ _ => rfl)) ?_
                  refine And.intro (ob_call1 rfl Tryd.func23 (by kernel_rfl) (wt_none rfl) (ev_dep (j := 0) (by kernel_rfl) rfl rfl) (fun w2 u0 hb h0 => by obtain rfl := h0; exact (rsign_any _ _ _ _ (kY.below hb) HT.out).mono fun e w3 h => RetV.pd h)) ?_
                  refine And.intro (ob_bin rfl (wt_none rfl) (ev_dep (j := 1) (by kernel_rfl) rfl rfl) (ev_const _) (fun _ _ _ hx hy => ⟨.bool (T != 0), by rw [hx, hy]; exact bin_neq_int _ _ _ _ _, rfl⟩)) ?_
                  trivial
                case done14 =>
                  refine fun w13 hb13 v0 h0 v1 h1 v2 h2 b hbf => ?_
                  obtain rfl := h0; obtain rfl := h1; obtain rfl := h2
                  simp only [Act.put, List.setIfInBounds_toArray, List.set_cons_zero, List.set_cons_succ] at hbf
                  subst hbf
                  replace Bx := Bx.below hb13
                  replace By := By.below hb13
                  replace Bq := Bq.below hb13
                  replace Br := Br.below hb13
                  replace Bp := Bp.below hb13
                  replace BX := BX.below hb13
                  replace BY := BY.below hb13
                  replace kxs := kxs.below hb13
                  replace kys := kys.below hb13
                  replace kqs := kqs.below hb13
                  replace krs := krs.below hb13
                  replace kps := kps.below hb13
                  replace kXs := kXs.below hb13
                  replace kYs := kYs.below hb13
                  replace kx := kx.below hb13
                  replace ky := ky.below hb13
                  replace kq := kq.below hb13
                  replace kr := kr.below hb13
                  replace kp := kp.below hb13
                  replace kX := kX.below hb13
                  replace kY := kY.below hb13
                  replace bb := bb.trans (hb13.mono bb.size)
                  have hsz13 := bb.size
                  refine ops_done ?_
                  go_upto_region 10 with (fail)
                  refine flowp 12 [Pd.eq (.int .i64 4), Pd.eq (.bool true), Pd.eq (.bool true), Pd.eq (.pointer (some ⟨g6, 1, none⟩)), Pd.eq (.slice A8 (digs 4294967296 ((0 : Int)).natAbs).length c8), Pd.eq (.int .i64 0), Pd.eq (.bool true), Pd.eq (.bool true), Pd.eq (.bool true), Pd.eq (.bool true), Pd.eq (.bool true), Pd.eq (.bool true)] (by kernel_rfl) ?ob15 ?done15
                  case ob15 =>
                    refine And.intro (ob_move rfl (wt_none rfl) (ev_far rfl rfl) (fun _ _ h => h)) ?_
                    refine And.intro (ob_bin rfl (wt_none rfl) (ev_dep (j := 0) (by kernel_rfl) rfl rfl) (ev_const _) (fun _ _ _ hx hy => ⟨.bool ((4 : Int) == 4), by rw [hx, hy]; exact bin_eql_int _ _ _ _ _, congrArg Value.bool (by decide)⟩)) ?_
                    refine And.intro (ob_move rfl (wt_none rfl) (ev_dep (j := 1) (by kernel_rfl) rfl rfl) (fun _ _ h => h)) ?_
                    refine And.intro (ob_fieldAddr rfl (wt_dep (c := true) (b := true) (g := 2) rfl (by kernel_rfl) rfl rfl rfl (by exact fun _ _ h => h)) (ev_far rfl rfl) (fun _ => by kernel_rfl) (fun _ => rfl)) ?_
                    refine And.intro (ob_load rfl (wt_dep (c := true) (b := true) (g := 2) rfl (by kernel_rfl) rfl rfl rfl (by exact fun _ _ h => h)) (ev_dep (j := 3) (by kernel_rfl) rfl rfl) (fun w2 hb => run_load1 Tryd.underlying23 rfl ((Bp.below hb).cell 1)) (fun _ _ => rfl)) ?_
                    refine And.intro (ob_len rfl (wt_dep (c := true) (b := true) (g := 2) rfl (by kernel_rfl) rfl rfl rfl (by exact fun _ _ h => h)) (ev_dep (j := 4) (by kernel_rfl) rfl rfl) (fun _ _ hx => ⟨_, by rw [hx]; exact len_slice Tryd.underlying23 _ _ _ _, congrArg (fun n : Nat => Value.int .i64 (n : Int)) HLZ.out⟩)) ?_
                    refine And.intro (ob_bin rfl (wt_dep (c := true) (b := true) (g := 2) rfl (by kernel_rfl) rfl rfl rfl (by exact fun _ _ h => h)) (ev_dep (j := 5) (by kernel_rfl) rfl rfl) (ev_const _) (fun _ _ _ hx hy => ⟨.bool ((0 : Int) == 0), by rw [hx, hy]; exact bin_eql_int _ _ _ _ _, congrArg Value.bool (by decide)⟩)) ?_
                    refine And.intro (ob_pick (b := true) rfl (wt_none rfl) (ev_dep (j := 2) (by kernel_rfl) rfl rfl) (ev_dep (j := 6) (by kernel_rfl) rfl rfl) (fun _ _ h => h)) ?_
                    refine And.intro (ob_move rfl (wt_none rfl) (ev_dep (j := 7) (by kernel_rfl) rfl rfl) (fun _ _ h => h)) ?_
                    refine And.intro (ob_call0 rfl Tryd.func24 (by kernel_rfl) (wt_dep (c := true) (b := true) (g := 8) rfl (by kernel_rfl) rfl rfl rfl (by exact fun _ _ h => h)) (fun w2 hb => (works7_any _).mono fun e w3 h => RetV.pd h)) ?_
                    refine And.intro (ob_pick (b := true) rfl (wt_none rfl) (ev_dep (j := 8) (by kernel_rfl) rfl rfl) (ev_dep (j := 9) (by kernel_rfl) rfl rfl) (fun _ _ h => h)) ?_
                    refine And.intro (ob_assign rfl (wt_none rfl) (ev_dep (j := 10) (by kernel_rfl) rfl rfl) (fun _ _ h => h)) ?_
                    trivial
                  case done15 =>
                    refine fun w14 hb14 v0 h0 v1 h1 v2 h2 v3 h3 v4 h4 v5 h5 v6 h6 v7 h7 v8 h8 v9 h9 v10 h10 v11 h11 b hbf => ?_
                    obtain rfl := h0; obtain rfl := h1; obtain rfl := h2; obtain rfl := h3; obtain rfl := h4; obtain rfl := h5; obtain rfl := h6; obtain rfl := h7; obtain rfl := h8; obtain rfl := h9; obtain rfl := h10; obtain rfl := h11
                    simp only [Act.put, List.setIfInBounds_toArray, List.set_cons_zero, List.set_cons_succ] at hbf
                    subst hbf
                    replace Bx := Bx.below hb14
                    replace By := By.below hb14
                    replace Bq := Bq.below hb14
                    replace Br := Br.below hb14
                    replace Bp := Bp.below hb14
                    replace BX := BX.below hb14
                    replace BY := BY.below hb14
                    replace kxs := kxs.below hb14
                    replace kys := kys.below hb14
                    replace kqs := kqs.below hb14
                    replace krs := krs.below hb14
                    replace kps := kps.below hb14
                    replace kXs := kXs.below hb14
                    replace kYs := kYs.below hb14
                    replace kx := kx.below hb14
                    replace ky := ky.below hb14
                    replace kq := kq.below hb14
                    replace kr := kr.below hb14
                    replace kp := kp.below hb14
                    replace kX := kX.below hb14
                    replace kY := kY.below hb14
                    replace bb := bb.trans (hb14.mono bb.size)
                    have hsz14 := bb.size
                    refine ops_done ?_
                    go_wp2
                    go_ret
                    exact ⟨rfl, bb⟩

set_option maxRecDepth 100000 in
theorem lifted (os : Os) (started : os.Started) (H : Type) (enc : TypeId × Value → H) :
    ReturnsInHanded {} Tryd.checked os 5 .any (fun w args => (Rows.wholeDivsSpec.pre enc Tryd.prog Tryd.f5 Rows.wholeDivsRow.domain false w args ∧ laidMetH Tryd.prog Rows.wholeDivsRow.laid w) ∧ sizedMet enc Tryd.prog Tryd.f5 (OpenSpec.ofChange Rows.wholeDivsSpec) false w args)
      (Rows.wholeDivsSpec.post enc Tryd.prog Tryd.f5 false true false false) := by
  refine returnsInHanded_of_change_and (C := Tryd.checked) (X := fun w _ => laidMetH Tryd.prog Rows.wholeDivsRow.laid w) (fun _ _ _ hh h => h.of_heap hh) own started (by kernel_rfl) Tryd.func5
    (ChangeSpec.witness_shaped (enc := enc) (C := Tryd.checked) (os := os) (X := fun w _ => laidMetH Tryd.prog Rows.wholeDivsRow.laid w) false (World.laidAll Tryd.prog os Rows.wholeDivsRow.laid) #[.agg #[.bool false, .slice none 0 0], .agg #[.bool false, .slice none 0 0]] 8 (World.laidAll_os _ _ _)
      (World.shaped_of_ZipB (by kernel_rfl) (by kernel_rfl)) (by kernel_rfl) (by kernel_rfl) (by kernel_rfl)
      (by rw [MakeChecks.laidMetH_plain _ _ _ (by kernel_rfl)]; exact laidMet_laidAll _ (by kernel_rfl) (by kernel_rfl))) ?_
  intro W base args ds gs before hval0 hW hcnd _ hL _
  have hval : ∀ (j : Nat) t v, Tryd.f5.params[j]? = some t → args[j]? = some v → Value.okWide Tryd.prog W .any base t v := hval0
  have hW' := hW
  obtain ⟨p, q, hA0, hV, rfl, hfz, hnd⟩ := hW
  have hA : DataW.TrodAll enc Tryd.prog W 0 (fun _ => true) true Tryd.f5.params.toList args.toList ds p := hA0
  rw [Tryd.params5] at hA hval
  obtain ⟨v0, vs0, d0, ds0, p0, q0, hargs, rfl, rfl, t0, r0⟩ := trodAll_cons hA
  obtain ⟨v1, vs1, d1, ds1, p1, q1, rfl, rfl, rfl, t1, r1⟩ := trodAll_cons r0
  obtain ⟨rfl, rfl, rfl⟩ := trodAll_nil r1
  obtain rfl : args = #[v0, v1] := by cases args; simp_all
  obtain ⟨rfl, rfl⟩ := trodVars_none hV
  obtain ⟨b0, x0, l0, rfl, hs0, hu0⟩ := arg_z Tryd.underlying25 (by kernel_rfl) (by kernel_rfl) Tryd.underlying4 Tryd.underlying23 Tryd.underlying74 cells_u (hval 0 25 v0 rfl rfl) t0
  obtain ⟨b1, x1, l1, rfl, hs1, hu1⟩ := arg_z Tryd.underlying25 (by kernel_rfl) (by kernel_rfl) Tryd.underlying4 Tryd.underlying23 Tryd.underlying74 cells_u (hval 1 25 v1 rfl rfl) t1
  clear hA0 hval0
  simp only [List.append_nil] at hW'
  have hlt0 : ∀ x ∈ p0, x.block < W.heap.size := fun x hx => hW'.lt x (List.mem_append_left _ hx)
  have hlt1 : ∀ x ∈ p1, x.block < W.heap.size := fun x hx => hW'.lt x (List.mem_append_right _ (hx))
  refine (walk b0 x0 l0 b1 x1 l1 W hs0 hu0 hs1 hu1).mono fun e W' ⟨he, hb⟩ => ?_
  subst he
  have s0 := Below.trod laidOut (by kernel_rfl) (of_decide_eq_true (by kernel_rfl)) t0 hb hlt0
  have s1 := Below.trod laidOut (by kernel_rfl) (of_decide_eq_true (by kernel_rfl)) t1 hb hlt1
  exact ⟨_, rfl, _, _, _, [] ++ [], _, [], hW', trodAll_cons_mk (shut_bool Tryd.underlying4 _) trodAll_mk0, trodAll_cons_mk s0 (trodAll_cons_mk s1 (trodAll_mk0)), rfl, hb.frame _, fun h => by cases h⟩

theorem over : Rows.wholeDivsRow.holds Tryd.pinned (OpenSpec.ofChange Rows.wholeDivsSpec) :=
  OpenClaim.holds_of_wide 5 Tryd.f5 rfl rfl rfl rfl rfl rfl rfl ⟨rfl, rfl, rfl, rfl, rfl⟩ rfl rfl rfl rfl rfl (by kernel_rfl) Tryd.func5 (by kernel_rfl)
    (of_decide_eq_true (by kernel_rfl)) (by unfold Func.isWrapper; first | (rw [if_pos (by decide +kernel)]; kernel_rfl) | (rw [if_neg (by decide +kernel)]; exact ⟨rfl, rfl⟩))
    (fun os started H enc _ => lifted os started H enc)

/-- The statement: the card. -/
theorem proved : Rows.WholeDivsCardSaid :=
  Claim7.holds_tied_plain_at .later [] [.data, .pinned] true _ false over (fun _ h => by cases h) (by kernel_rfl) (fun _ h => by cases h) wholeDivs_row_tie rfl ⟨rfl, rfl⟩ (by kernel_rfl) rfl
    (fun f fn hf hfn => by
      obtain rfl : f = 5 := Option.some.inj ((show Tryd.prog.funcNamed Rows.wholeDivsRow.func = some 5 by kernel_rfl).symm.trans hf) |>.symm
      obtain rfl : fn = Tryd.f5 := (Option.some.inj (Tryd.func5.symm.trans hfn)).symm
      exact ⟨by kernel_rfl, fun j t ht => by
        rw [Tryd.params5] at ht
        have hm : t ∈ [25, 25] := by simpa using Array.mem_of_getElem? ht
        have hall : ([25, 25].all fun u => !Tryd.prog.wantsStandIn u) = true := by kernel_rfl
        exact (show Tryd.prog.wantsStandIn t = false by simpa using List.all_eq_true.1 hall t hm)⟩)
    (by kernel_rfl)
end Go.Proofs.YtcmjbkgcknimlaaDoor.wholeDivs
