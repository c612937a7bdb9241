/- RatioParses: any text is read as a fraction, as the document says, or refused. Condition: the arguments can be read as data. -/
import Derived.Test.YtpcllhdfalebbaaGreatDoorK6
import Derived.Deep.Cut
import Derived.OpenShut
import Derived.LaidMore
import Derived.Lay
import Derived.SevenTiedAt
import Derived.Stop.Joined
import Derived.Test.YtpcllhdfalebbaaGreatDoorCards
import Derived.Test.YtpcllhdfalebbaaGreatDoorTie
namespace Go.Proofs.YtpcllhdfalebbaaGreatDoor.ratioParses
open Go.ChangeShapes Go.WideShapes Go.ChangeAt Go.RowKit Go.Proofs.YtpcllhdfalebbaaGreatDoor.num Go.Proofs.YtpcllhdfalebbaaGreatDoor.mem Go.Proofs.YtpcllhdfalebbaaGreatDoor.nat Go.Proofs.YtpcllhdfalebbaaGreatDoor.txt Go.Proofs.YtpcllhdfalebbaaGreatDoor.str Go.Proofs.YtpcllhdfalebbaaGreatDoor.flow Go.Proofs.YtpcllhdfalebbaaGreatDoor.whl Go.Proofs.YtpcllhdfalebbaaGreatDoor.rat Go.Proofs.YtpcllhdfalebbaaGreatDoor.rto
set_option linter.unusedVariables false
theorem own : ownKnob Tryz.prog.godebug = none := by kernel_rfl
theorem laidOut : laidOutB Tryz.prog = true := by kernel_rfl
theorem cells_u : Tryz.prog.cellsOf 60 = 1 := by kernel_rfl
set_option maxHeartbeats 6400000 in
set_option maxRecDepth 100000 in
/-- The walk: the Go text returns true; what was there is as it was. -/
theorem walk (S0 : ByteArray) (w : World) (z0 : S0.size ≤ maxLen) :
    Calls Tryz.prog 3 #[.string S0] w (RetV (.bool true) w) := by
  obtain ⟨l, rfl⟩ : ∃ l : List UInt8, S0 = ⟨l.toArray⟩ := ⟨S0.data.toList, (StrIs.is (S := S0) rfl)⟩
  have lz : l.length ≤ 9223372036854775807 := by rw [bytes_size] at z0; unfold maxLen at z0; omega
  clear z0
  have bb : Below w.heap.size w w := Below.refl _ _
  have hsz0 := bb.size
  go_enter Tryz.func3, Tryz.ntmps3
  go_upto_region 1 with (fail)
  refine flowp 5 [Pd.eq (.string (ByteArray.mk (List.toArray (l : List UInt8)))), Pd.eq (.string (ByteArray.mk (List.toArray (l : List UInt8)))), Pd.eq (.int .i64 (((l).length : Nat) : Int)), Pd.eq (.int .i64 (((min (l).length 60) : Nat) : Int)), Pd.eq (.string (ByteArray.mk (List.toArray ((l).take ((min (l).length 60)) : List UInt8))))] (by kernel_rfl) ?ob5 ?done5
  case ob5 =>
    refine And.intro (ob_move rfl (wt_none rfl) (ev_far rfl rfl) (fun _ _ h => h)) ?_
    refine And.intro (ob_move rfl (wt_none rfl) (ev_far rfl rfl) (fun _ _ h => h)) ?_
    refine And.intro (ob_len rfl (wt_none rfl) (ev_dep (j := 1) (by kernel_rfl) rfl rfl) (fun _ _ hx => ⟨_, by rw [hx]; exact len_txt Tryz.underlying9 _ _, rfl⟩)) ?_
    refine And.intro (ob_min rfl (wt_none rfl) (ev_dep (j := 2) (by kernel_rfl) rfl rfl) (ev_const _) (fun _ _ _ hx hy => ⟨_, by rw [hx, hy]; exact min_nat ((l).length) (60) _, rfl⟩)) ?_
    refine And.intro (ob_slice_to rfl (wt_none rfl) (ev_dep (j := 0) (by kernel_rfl) rfl rfl) (ev_dep (j := 3) (by kernel_rfl) rfl rfl) (fun _ _ _ hx hy => ⟨_, by rw [hx, hy]; exact to_txt Tryz.underlying9 _ ((min (l).length 60)) (by first | omega | (simp; omega)) _, rfl⟩)) ?_
    trivial
  case done5 =>
    refine fun w1 hb1 v0 h0 v1 h1 v2 h2 v3 h3 v4 h4 b hbf => ?_
    obtain rfl := h0; obtain rfl := h1; obtain rfl := h2; obtain rfl := h3; obtain rfl := h4
    simp only [Act.put, List.setIfInBounds_toArray, List.set_cons_zero, List.set_cons_succ] at hbf
    subst hbf
    replace bb := bb.trans (hb1.mono bb.size)
    have hsz1 := bb.size
    refine ops_assign (i := 5) (.string (ByteArray.mk (List.toArray ((l).take ((min (l).length 60)) : List UInt8)))) rfl rfl rfl rfl rfl fun b hbf => ?_
    simp only [Act.put, List.setIfInBounds_toArray, List.set_cons_zero] at hbf
    subst hbf
    refine ops_done ?_
    obtain ⟨T, hT⟩ : ∃ T, T = (l).take ((min (l).length 60)) := ⟨_, rfl⟩
    have lT : T.length ≤ 60 := by rw [hT, List.length_take]; omega
    rw [show (l).take ((min (l).length 60)) = T from hT.symm]
    clear hT
    obtain ⟨en, q, hp⟩ : ∃ (en : Int) (q : Rat), readQ T = (en, q) := ⟨_, _, rfl⟩
    by_cases he : en = 0
    · subst he
      have HR := Lib.hid hp
      have lq : lenQ q 1000 := read_len lT HR.out
      clear hp
      go_upto_region 2 with (fail)
      refine flowp 6 [Pd.eq (.string (ByteArray.mk (List.toArray (T : List UInt8)))), pqf (q) 0 w1.heap.size, pqf (q) 0 w1.heap.size, pq (q) w1.heap.size, Pd.eq (.int .i64 0), pn 27 #[.bool false, .slice none 0 0, .slice none 0 0] w1.heap.size] (by kernel_rfl) ?ob6 ?done6
      case ob6 =>
        refine And.intro (ob_move rfl (wt_none rfl) (ev_far rfl rfl) (fun _ _ h => h)) ?_
        refine And.intro (ob_call1 rfl Tryz.func6 (by kernel_rfl) (wt_none rfl) (ev_dep (j := 0) (by kernel_rfl) rfl rfl) (fun w2 u0 hb h0 => by obtain rfl := h0; exact (fparse9_ok T q _ (by first | decide | omega) HR.out).mono fun e w3 h => RetQF.pd h hb.size)) ?_
        refine And.intro (ob_move rfl (wt_none rfl) (ev_dep (j := 1) (by kernel_rfl) rfl rfl) (fun _ _ h => h)) ?_
        refine And.intro (ob_extract rfl (wt_none rfl) (ev_dep (j := 2) (by kernel_rfl) rfl rfl) (fun w2 u hu => by obtain ⟨v, rfl, q1, q2⟩ := hu; exact ⟨v, rfl, q1, q2⟩)) ?_
        refine And.intro (ob_extract rfl (wt_none rfl) (ev_dep (j := 2) (by kernel_rfl) rfl rfl) (fun w2 u hu => by obtain ⟨v, rfl, q1, q2⟩ := hu; exact ⟨_, rfl, rfl⟩)) ?_
        refine And.intro (ob_alloc (z := .agg #[.bool false, .slice none 0 0, .slice none 0 0]) rfl rfl (fun _ => by kernel_rfl) (fun _ _ hB h => ⟨_, rfl, hB, h⟩)) ?_
        trivial
      case done6 =>
        refine fun w2 hb2 v0 h0 v1 h1 v2 h2 v3 h3 v4 h4 v5 h5 d5 b hbf => ?_
        obtain rfl := h0; obtain rfl := h4
        clear h1
        clear h2
        obtain ⟨q3, f3⟩ := h3
        obtain ⟨g6_5, rfl, hg5, B5⟩ := h5
        simp only [Act.put, List.setIfInBounds_toArray, List.set_cons_zero, List.set_cons_succ] at hbf
        subst hbf
        replace bb := bb.trans (hb2.mono bb.size)
        have hsz2 := bb.size
        have BA3 := B5
        obtain ⟨u3, t3, rfl, q3, d3⟩ := q3
        obtain ⟨Aa, ca, rfl, _⟩ := id q3
        obtain ⟨Da, ea, rfl, _⟩ := id d3
        refine ops_store (i := 6) rfl rfl rfl rfl rfl rfl (cells := [.bool (ngB (q).num), .slice Aa (digs 4294967296 (q).num.natAbs).length ca, .slice Da (digs 4294967296 (q).den).length ea]) rfl BA3 rfl (by kernel_rfl) (one3 rfl rfl rfl) fun w3 hg3 BN3 => ?_
        replace q3 := off q3 BA3 no_ints3 hg3
        replace d3 := off d3 BA3 no_ints3 hg3
        replace bb := bb.trans ((Below.refl _ _).grown hg3 bb.size (fun g hg => by injection hg with hg; omega))
        have hsz3 := bb.size
        have Ba : Blk w3 (g6_5) _ _ := BN3
        have kas := q3
        have kad := d3
        have kaz : IsZ w3 (.agg #[.bool (ngB (q).num), .slice Aa (digs 4294967296 (q).num.natAbs).length ca]) ((q).num) := ⟨_, rfl, kas⟩
        have ka : IsQ w3 (.agg #[.bool (ngB (q).num), .slice Aa (digs 4294967296 (q).num.natAbs).length ca, .slice Da (digs 4294967296 (q).den).length ea]) (q) := ⟨_, _, rfl, kas, kad⟩
        refine ops_assign (i := 7) (.int .i64 0) rfl rfl rfl rfl rfl fun b hbf => ?_
        simp only [Act.put, List.setIfInBounds_toArray, List.set_cons_zero, List.set_cons_succ] at hbf
        subst hbf
        refine ops_done ?_
        go_upto_region 3 with (fail)
        have lt3_3 := Blk.lt Ba
        refine flowp 6 [Pd.eq (.string (ByteArray.mk (List.toArray (T : List UInt8)))), ppe (q), ppe (q), pp (q), Pd.eq (.int .i64 0), pn 36 #[.bool false, .slice none 0 0, .slice none 0 0] w3.heap.size] (by kernel_rfl) ?ob7 ?done7
        case ob7 =>
          refine And.intro (ob_move rfl (wt_none rfl) (ev_far rfl rfl) (fun _ _ h => h)) ?_
          refine And.intro (ob_call1 rfl Tryz.func7 (by kernel_rfl) (wt_none rfl) (ev_dep (j := 0) (by kernel_rfl) rfl rfl) (fun w2 u0 hb h0 => by obtain rfl := h0; exact (rparse9_ok T q _ (by omega) HR.out))) ?_
          refine And.intro (ob_move rfl (wt_none rfl) (ev_dep (j := 1) (by kernel_rfl) rfl rfl) (fun _ _ h => h)) ?_
          refine And.intro (ob_extract rfl (wt_none rfl) (ev_dep (j := 2) (by kernel_rfl) rfl rfl) (fun w2 u hu => by obtain ⟨v, rfl, q1⟩ := hu; exact ⟨v, rfl, q1⟩)) ?_
          refine And.intro (ob_extract rfl (wt_none rfl) (ev_dep (j := 2) (by kernel_rfl) rfl rfl) (fun w2 u hu => by obtain ⟨v, rfl, q1⟩ := hu; exact ⟨_, rfl, rfl⟩)) ?_
          refine And.intro (ob_alloc (z := .agg #[.bool false, .slice none 0 0, .slice none 0 0]) rfl rfl (fun _ => by kernel_rfl) (fun _ _ hB h => ⟨_, rfl, hB, h⟩)) ?_
          trivial
        case done7 =>
          refine fun w4 hb4 v0 h0 v1 h1 v2 h2 v3 h3 v4 h4 v5 h5 d5 b hbf => ?_
          obtain rfl := h0; obtain rfl := h4
          clear h1
          clear h2
          have q3 := h3
          obtain ⟨g7_5, rfl, hg5, B5⟩ := h5
          simp only [Act.put, List.setIfInBounds_toArray, List.set_cons_zero, List.set_cons_succ] at hbf
          subst hbf
          replace Ba := Ba.below hb4
          replace kas := kas.below hb4
          replace kad := kad.below hb4
          replace kaz := kaz.below hb4
          replace ka := ka.below hb4
          replace bb := bb.trans (hb4.mono bb.size)
          have hsz4 := bb.size
          have BA5 := B5
          obtain ⟨u3, t3, rfl, q3, d3⟩ := q3
          obtain ⟨Ap, cp, rfl, _⟩ := id q3
          obtain ⟨Dp, ep, rfl, _⟩ := id d3
          refine ops_store (i := 6) rfl rfl rfl rfl rfl rfl (cells := [.bool (ngB (q).num), .slice Ap (digs 10000 (q).num.natAbs).length cp, .slice Dp (digs 10000 (q).den).length ep]) rfl BA5 rfl (by kernel_rfl) (one3 rfl rfl rfl) fun w5 hg5 BN5 => ?_
          replace q3 := off q3 BA5 no_ints3 hg5
          replace d3 := off d3 BA5 no_ints3 hg5
          replace kas := off kas BA5 no_ints3 hg5
          replace kad := off kad BA5 no_ints3 hg5
          replace kaz : IsZ w5 (.agg #[.bool (ngB (q).num), .slice Aa (digs 4294967296 (q).num.natAbs).length ca]) ((q).num) := ⟨_, rfl, kas⟩
          replace ka : IsQ w5 (.agg #[.bool (ngB (q).num), .slice Aa (digs 4294967296 (q).num.natAbs).length ca, .slice Da (digs 4294967296 (q).den).length ea]) (q) := ⟨_, _, rfl, kas, kad⟩
          replace Ba := Ba.grown hg5 (by omega)
          replace bb := bb.trans ((Below.refl _ _).grown hg5 bb.size (fun g hg => by injection hg with hg; omega))
          have hsz5 := bb.size
          have Bp : Blk w5 (g7_5) _ _ := BN5
          have kps := q3
          have kpd := d3
          have kpz : IsR w5 (.agg #[.bool (ngB (q).num), .slice Ap (digs 10000 (q).num.natAbs).length cp]) ((q).num) := ⟨_, rfl, kps⟩
          have kp : IsP w5 (.agg #[.bool (ngB (q).num), .slice Ap (digs 10000 (q).num.natAbs).length cp, .slice Dp (digs 10000 (q).den).length ep]) (q) := ⟨_, _, rfl, kps, kpd⟩
          refine ops_assign (i := 7) (.int .i64 0) rfl rfl rfl rfl rfl fun b hbf => ?_
          simp only [Act.put, List.setIfInBounds_toArray, List.set_cons_zero, List.set_cons_succ] at hbf
          subst hbf
          refine ops_done ?_
          go_upto_region 4 with (fail)
          refine flowp 2 [Pd.eq (.int .i64 0), Pd.eq (.bool false)] (by kernel_rfl) ?ob8 ?done8
          case ob8 =>
            refine And.intro (ob_move rfl (wt_none rfl) (ev_far rfl rfl) (fun _ _ h => h)) ?_
            refine And.intro (ob_bin rfl (wt_none rfl) (ev_dep (j := 0) (by kernel_rfl) rfl rfl) (ev_const _) (fun _ _ _ hx hy => ⟨.bool ((0 : Int) != 0), by rw [hx, hy]; exact bin_neq_int _ _ _ _ _, congrArg Value.bool (by decide)⟩)) ?_
            trivial
          case done8 =>
            refine fun w6 hb6 v0 h0 v1 h1 b hbf => ?_
            obtain rfl := h0; obtain rfl := h1
            simp only [Act.put, List.setIfInBounds_toArray, List.set_cons_zero, List.set_cons_succ] at hbf
            subst hbf
            replace Ba := Ba.below hb6
            replace kas := kas.below hb6
            replace kad := kad.below hb6
            replace kaz := kaz.below hb6
            replace ka := ka.below hb6
            replace Bp := Bp.below hb6
            replace kps := kps.below hb6
            replace kpd := kpd.below hb6
            replace kpz := kpz.below hb6
            replace kp := kp.below hb6
            replace bb := bb.trans (hb6.mono bb.size)
            have hsz6 := bb.size
            refine ops_done ?_
            go_upto_region 6 with (fail)
            refine flow 13 [Pd.eq (.int .i64 0), Pd.eq (.int .i64 0), Pd.eq (.bool true), Pd.eq (.bool true), Pd.eq (.agg #[.bool (ngB (q).num), .slice Aa (digs 4294967296 (q).num.natAbs).length ca, .slice Da (digs 4294967296 (q).den).length ea]), Pd.eq (.agg #[.bool (ngB (q).num), .slice Ap (digs 10000 (q).num.natAbs).length cp, .slice Dp (digs 10000 (q).den).length ep]), pqn (q), Pd.eq (.bool true), Pd.eq (.bool true), Pd.eq (.bool true), Pd.eq (.bool true), Pd.eq (.bool true), Pd.eq (.bool true)] (by kernel_rfl) (by kernel_rfl) ?ob9 ?done9
            case ob9 =>
              refine And.intro (ob_move rfl (wt_none rfl) (ev_far rfl rfl) (fun _ _ h => h)) ?_
              refine And.intro (ob_move rfl (wt_none rfl) (ev_far rfl rfl) (fun _ _ h => h)) ?_
              refine And.intro (ob_bin rfl (wt_none rfl) (ev_dep (j := 0) (by kernel_rfl) rfl rfl) (ev_dep (j := 1) (by kernel_rfl) rfl rfl) (fun _ _ _ hx hy => ⟨.bool ((0 : Int) == 0), by rw [hx, hy]; exact bin_eql_int _ _ _ _ _, congrArg Value.bool (by decide)⟩)) ?_
              refine And.intro (ob_move rfl (wt_none rfl) (ev_dep (j := 2) (by kernel_rfl) rfl rfl) (fun _ _ h => h)) ?_
              refine And.intro (ob_load rfl (wt_dep (c := true) (b := true) (g := 3) rfl (by kernel_rfl) rfl rfl rfl (by exact fun _ _ h => h)) (ev_far rfl rfl) (fun w2 hb => run_loadAll Tryz.underlying27 rfl (by kernel_rfl) (Ba.drew.below hb)) (fun _ _ => rfl)) ?_
              refine And.intro (ob_load rfl (wt_dep (c := true) (b := true) (g := 3) rfl (by kernel_rfl) rfl rfl rfl (by exact fun _ _ h => h)) (ev_far rfl rfl) (fun w2 hb => run_loadAll Tryz.underlying36 rfl (by kernel_rfl) (Bp.drew.below hb)) (fun _ _ => rfl)) ?_
              refine And.intro (ob_call1 rfl Tryz.func10 (by kernel_rfl) (wt_dep (c := true) (b := true) (g := 3) rfl (by kernel_rfl) rfl rfl rfl (by exact fun _ _ h => h)) (ev_dep (j := 5) (by kernel_rfl) rfl rfl) (fun w2 u0 hb h0 => by obtain rfl := h0; exact (qback_any _ _ _ (kp.drew.below hb) (lq.mono (by decide))).mono fun e w3 h => RetQn.pd (RetQ.n h))) ?_
              refine And.intro (ob_call2 rfl Tryz.func9 (by kernel_rfl) (wt_dep (c := true) (b := true) (g := 3) rfl (by kernel_rfl) rfl rfl rfl (by exact fun _ _ h => h)) (ev_dep (j := 4) (by kernel_rfl) rfl rfl) (ev_dep (j := 6) (by kernel_rfl) rfl rfl) (fun w2 u0 u1 hb h0 h1 => by obtain rfl := h0; exact (qsame_eq _ _ (q) (q) _ (ka.drew.below hb) h1 rfl).mono fun e w3 h => RetV.pd h)) ?_
              refine And.intro (ob_pick (b := true) rfl (wt_none rfl) (ev_dep (j := 3) (by kernel_rfl) rfl rfl) (ev_dep (j := 7) (by kernel_rfl) rfl rfl) (fun _ _ h => h)) ?_
              refine And.intro (ob_move rfl (wt_none rfl) (ev_dep (j := 8) (by kernel_rfl) rfl rfl) (fun _ _ h => h)) ?_
              refine And.intro (ob_call0 rfl Tryz.func8 (by kernel_rfl) (wt_dep (c := true) (b := true) (g := 9) rfl (by kernel_rfl) rfl rfl rfl (by exact fun _ _ h => h)) (fun w2 hb => (works9_any _).mono fun e w3 h => RetV.pd h)) ?_
              refine And.intro (ob_pick (b := true) rfl (wt_none rfl) (ev_dep (j := 9) (by kernel_rfl) rfl rfl) (ev_dep (j := 10) (by kernel_rfl) rfl rfl) (fun _ _ h => h)) ?_
              refine And.intro (ob_assign rfl (wt_none rfl) (ev_dep (j := 11) (by kernel_rfl) rfl rfl) (fun _ _ h => h)) ?_
              trivial
            case done9 =>
              refine fun w7 hb7 v0 h0 v1 h1 v2 h2 v3 h3 v4 h4 v5 h5 v6 h6 v7 h7 v8 h8 v9 h9 v10 h10 v11 h11 v12 h12 b hbf => ?_
              obtain rfl := h0; obtain rfl := h1; obtain rfl := h2; obtain rfl := h3; obtain rfl := h4; obtain rfl := h5; obtain rfl := h7; obtain rfl := h8; obtain rfl := h9; obtain rfl := h10; obtain rfl := h11; obtain rfl := h12
              have q6 := h6
              simp only [Act.put, List.setIfInBounds_toArray, List.set_cons_zero, List.set_cons_succ] at hbf
              subst hbf
              replace Ba := Ba.below hb7
              replace kas := kas.below hb7
              replace kad := kad.below hb7
              replace kaz := kaz.below hb7
              replace ka := ka.below hb7
              replace Bp := Bp.below hb7
              replace kps := kps.below hb7
              replace kpd := kpd.below hb7
              replace kpz := kpz.below hb7
              replace kp := kp.below hb7
              replace bb := bb.trans (hb7.mono bb.size)
              have hsz7 := bb.size
              refine any_done (by kernel_rfl) ?_
              go_wp2
              go_ret
              exact ⟨rfl, bb⟩
    · have HR : Hid ((readQ T).1 = en) := by show _ = _; rw [hp]
      have HE := Lib.hid he
      have hnb : (en != 0) = true := by rw [bne_iff_ne]; exact he
      have HNB := Lib.hid hnb
      clear hp he hnb
      go_upto_region 2 with (fail)
      refine flowp 6 [Pd.eq (.string (ByteArray.mk (List.toArray (T : List UInt8)))), Pd.eq (.tuple #[.agg #[.bool false, .slice none 0 0, .slice none 0 0], .int .i64 en]), Pd.eq (.tuple #[.agg #[.bool false, .slice none 0 0, .slice none 0 0], .int .i64 en]), Pd.eq (.agg #[.bool false, .slice none 0 0, .slice none 0 0]), Pd.eq (.int .i64 en), pn 27 #[.bool false, .slice none 0 0, .slice none 0 0] w1.heap.size] (by kernel_rfl) ?ob10 ?done10
      case ob10 =>
        refine And.intro (ob_move rfl (wt_none rfl) (ev_far rfl rfl) (fun _ _ h => h)) ?_
        refine And.intro (ob_call1 rfl Tryz.func6 (by kernel_rfl) (wt_none rfl) (ev_dep (j := 0) (by kernel_rfl) rfl rfl) (fun w2 u0 hb h0 => by obtain rfl := h0; exact (fparse9_no T en _ (by omega) HR.out HE.out).mono fun e w3 h => RetQN.pd h)) ?_
        refine And.intro (ob_move rfl (wt_none rfl) (ev_dep (j := 1) (by kernel_rfl) rfl rfl) (fun _ _ h => h)) ?_
        refine And.intro (ob_extract rfl (wt_none rfl) (ev_dep (j := 2) (by kernel_rfl) rfl rfl) (fun w2 u hu => by obtain rfl := hu; exact ⟨_, rfl, rfl⟩)) ?_
        refine And.intro (ob_extract rfl (wt_none rfl) (ev_dep (j := 2) (by kernel_rfl) rfl rfl) (fun w2 u hu => by obtain rfl := hu; exact ⟨_, rfl, rfl⟩)) ?_
        refine And.intro (ob_alloc (z := .agg #[.bool false, .slice none 0 0, .slice none 0 0]) rfl rfl (fun _ => by kernel_rfl) (fun _ _ hB h => ⟨_, rfl, hB, h⟩)) ?_
        trivial
      case done10 =>
        refine fun w2 hb2 v0 h0 v1 h1 v2 h2 v3 h3 v4 h4 v5 h5 d5 b hbf => ?_
        obtain rfl := h0; obtain rfl := h1; obtain rfl := h2; obtain rfl := h3; obtain rfl := h4
        obtain ⟨g10_5, rfl, hg5, B5⟩ := h5
        simp only [Act.put, List.setIfInBounds_toArray, List.set_cons_zero, List.set_cons_succ] at hbf
        subst hbf
        replace bb := bb.trans (hb2.mono bb.size)
        have hsz2 := bb.size
        have BA3 := B5
        refine ops_store (i := 6) rfl rfl rfl rfl rfl rfl (cells := [.bool false, .slice none 0 0, .slice none 0 0]) rfl BA3 rfl (by kernel_rfl) (one3 rfl rfl rfl) fun w3 hg3 BN3 => ?_
        replace bb := bb.trans ((Below.refl _ _).grown hg3 bb.size (fun g hg => by injection hg with hg; omega))
        have hsz3 := bb.size
        replace BA3 : Blk w3 (g10_5) _ #[.bool false, .slice none 0 0, .slice none 0 0] := BN3
        refine ops_assign (i := 7) (.int .i64 en) rfl rfl rfl rfl rfl fun b hbf => ?_
        simp only [Act.put, List.setIfInBounds_toArray, List.set_cons_zero, List.set_cons_succ] at hbf
        subst hbf
        refine ops_done ?_
        go_upto_region 3 with (fail)
        have lt3_3 := Blk.lt BA3
        refine flowp 6 [Pd.eq (.string (ByteArray.mk (List.toArray (T : List UInt8)))), Pd.eq (.tuple #[.agg #[.bool false, .slice none 0 0, .slice none 0 0], .int .i64 en]), Pd.eq (.tuple #[.agg #[.bool false, .slice none 0 0, .slice none 0 0], .int .i64 en]), Pd.eq (.agg #[.bool false, .slice none 0 0, .slice none 0 0]), Pd.eq (.int .i64 en), pn 36 #[.bool false, .slice none 0 0, .slice none 0 0] w3.heap.size] (by kernel_rfl) ?ob11 ?done11
        case ob11 =>
          refine And.intro (ob_move rfl (wt_none rfl) (ev_far rfl rfl) (fun _ _ h => h)) ?_
          refine And.intro (ob_call1 rfl Tryz.func7 (by kernel_rfl) (wt_none rfl) (ev_dep (j := 0) (by kernel_rfl) rfl rfl) (fun w2 u0 hb h0 => by obtain rfl := h0; exact (rparse9_no T en _ (by omega) HR.out HE.out).mono fun e w3 h => RetQN.pd h)) ?_
          refine And.intro (ob_move rfl (wt_none rfl) (ev_dep (j := 1) (by kernel_rfl) rfl rfl) (fun _ _ h => h)) ?_
          refine And.intro (ob_extract rfl (wt_none rfl) (ev_dep (j := 2) (by kernel_rfl) rfl rfl) (fun w2 u hu => by obtain rfl := hu; exact ⟨_, rfl, rfl⟩)) ?_
          refine And.intro (ob_extract rfl (wt_none rfl) (ev_dep (j := 2) (by kernel_rfl) rfl rfl) (fun w2 u hu => by obtain rfl := hu; exact ⟨_, rfl, rfl⟩)) ?_
          refine And.intro (ob_alloc (z := .agg #[.bool false, .slice none 0 0, .slice none 0 0]) rfl rfl (fun _ => by kernel_rfl) (fun _ _ hB h => ⟨_, rfl, hB, h⟩)) ?_
          trivial
        case done11 =>
          refine fun w4 hb4 v0 h0 v1 h1 v2 h2 v3 h3 v4 h4 v5 h5 d5 b hbf => ?_
          obtain rfl := h0; obtain rfl := h1; obtain rfl := h2; obtain rfl := h3; obtain rfl := h4
          obtain ⟨g11_5, rfl, hg5, B5⟩ := h5
          simp only [Act.put, List.setIfInBounds_toArray, List.set_cons_zero, List.set_cons_succ] at hbf
          subst hbf
          replace BA3 := BA3.below hb4
          replace bb := bb.trans (hb4.mono bb.size)
          have hsz4 := bb.size
          have BA5 := B5
          refine ops_store (i := 6) rfl rfl rfl rfl rfl rfl (cells := [.bool false, .slice none 0 0, .slice none 0 0]) rfl BA5 rfl (by kernel_rfl) (one3 rfl rfl rfl) fun w5 hg5 BN5 => ?_
          replace BA3 := BA3.grown hg5 (by omega)
          replace bb := bb.trans ((Below.refl _ _).grown hg5 bb.size (fun g hg => by injection hg with hg; omega))
          have hsz5 := bb.size
          replace BA5 : Blk w5 (g11_5) _ #[.bool false, .slice none 0 0, .slice none 0 0] := BN5
          refine ops_assign (i := 7) (.int .i64 en) rfl rfl rfl rfl rfl fun b hbf => ?_
          simp only [Act.put, List.setIfInBounds_toArray, List.set_cons_zero, List.set_cons_succ] at hbf
          subst hbf
          refine ops_done ?_
          go_upto_region 4 with (fail)
          refine flowp 2 [Pd.eq (.int .i64 en), Pd.eq (.bool true)] (by kernel_rfl) ?ob12 ?done12
          case ob12 =>
            refine And.intro (ob_move rfl (wt_none rfl) (ev_far rfl rfl) (fun _ _ h => h)) ?_
            refine And.intro (ob_bin rfl (wt_none rfl) (ev_dep (j := 0) (by kernel_rfl) rfl rfl) (ev_const _) (fun _ _ _ hx hy => ⟨.bool true, by rw [hx, hy, bin_neq_int, HNB.out], rfl⟩)) ?_
            trivial
          case done12 =>
            refine fun w6 hb6 v0 h0 v1 h1 b hbf => ?_
            obtain rfl := h0; obtain rfl := h1
            simp only [Act.put, List.setIfInBounds_toArray, List.set_cons_zero, List.set_cons_succ] at hbf
            subst hbf
            replace BA3 := BA3.below hb6
            replace BA5 := BA5.below hb6
            replace bb := bb.trans (hb6.mono bb.size)
            have hsz6 := bb.size
            refine ops_done ?_
            go_upto_region 5 with (fail)
            refine flowp 18 [Pd.eq (.int .i64 en), Pd.eq (.int .i64 en), Pd.eq (.bool true), Pd.eq (.bool true), Pd.eq (.pointer (some ⟨g10_5, 2, none⟩)), Pd.eq (.slice none 0 0), Pd.eq (.int .i64 ((0 : Nat) : Int)), Pd.eq (.pointer (some ⟨g10_5, 0, none⟩)), Pd.eq (.pointer (some ⟨g10_5, 1, none⟩)), Pd.eq (.slice none 0 0), Pd.eq (.int .i64 ((0 : Nat) : Int)), Pd.eq (.int .i64 0), Pd.eq (.bool true), Pd.eq (.bool true), Pd.eq (.bool true), Pd.eq (.bool true), Pd.eq (.bool true), Pd.eq (.bool true)] (by kernel_rfl) ?ob13 ?done13
            case ob13 =>
              refine And.intro (ob_move rfl (wt_none rfl) (ev_far rfl rfl) (fun _ _ h => h)) ?_
              refine And.intro (ob_move rfl (wt_none rfl) (ev_far rfl rfl) (fun _ _ h => h)) ?_
              refine And.intro (ob_bin rfl (wt_none rfl) (ev_dep (j := 0) (by kernel_rfl) rfl rfl) (ev_dep (j := 1) (by kernel_rfl) rfl rfl) (fun _ _ _ hx hy => ⟨.bool (en == en), by rw [hx, hy]; exact bin_eql_int _ _ _ _ _, congrArg Value.bool (beq_self_eq_true _)⟩)) ?_
              refine And.intro (ob_move rfl (wt_none rfl) (ev_dep (j := 2) (by kernel_rfl) rfl rfl) (fun _ _ h => h)) ?_
              refine And.intro (ob_fieldAddr rfl (wt_dep (c := true) (b := true) (g := 3) rfl (by kernel_rfl) rfl rfl rfl (by exact fun _ _ h => h)) (ev_far rfl rfl) (fun _ => by kernel_rfl) (fun _ => rfl)) ?_
              refine And.intro (ob_load rfl (wt_dep (c := true) (b := true) (g := 3) rfl (by kernel_rfl) rfl rfl rfl (by exact fun _ _ h => h)) (ev_dep (j := 4) (by kernel_rfl) rfl rfl) (fun w2 hb => run_load1 Tryz.underlying23 rfl ((BA3.below hb).cell 2)) (fun _ _ => rfl)) ?_
              refine And.intro (ob_len rfl (wt_dep (c := true) (b := true) (g := 3) rfl (by kernel_rfl) rfl rfl rfl (by exact fun _ _ h => h)) (ev_dep (j := 5) (by kernel_rfl) rfl rfl) (fun _ _ hx => ⟨_, by rw [hx]; exact len_slice Tryz.underlying23 _ _ _ _, rfl⟩)) ?_
              refine And.intro (ob_fieldAddr rfl (wt_dep (c := true) (b := true) (g := 3) rfl (by kernel_rfl) rfl rfl rfl (by exact fun _ _ h => h)) (ev_far rfl rfl) (fun _ => by kernel_rfl) (fun _ => rfl)) ?_
              refine And.intro (ob_fieldAddr rfl (wt_dep (c := true) (b := true) (g := 3) rfl (by kernel_rfl) rfl rfl rfl (by exact fun _ _ h => h)) (ev_dep (j := 7) (by kernel_rfl) rfl rfl) (fun _ => by kernel_rfl) (fun _ => rfl)) ?_
              refine And.intro (ob_load rfl (wt_dep (c := true) (b := true) (g := 3) rfl (by kernel_rfl) rfl rfl rfl (by exact fun _ _ h => h)) (ev_dep (j := 8) (by kernel_rfl) rfl rfl) (fun w2 hb => run_load1 Tryz.underlying23 rfl ((BA3.below hb).cell 1)) (fun _ _ => rfl)) ?_
              refine And.intro (ob_len rfl (wt_dep (c := true) (b := true) (g := 3) rfl (by kernel_rfl) rfl rfl rfl (by exact fun _ _ h => h)) (ev_dep (j := 9) (by kernel_rfl) rfl rfl) (fun _ _ hx => ⟨_, by rw [hx]; exact len_slice Tryz.underlying23 _ _ _ _, rfl⟩)) ?_
              refine And.intro (ob_bin rfl (wt_dep (c := true) (b := true) (g := 3) rfl (by kernel_rfl) rfl rfl rfl (by exact fun _ _ h => h)) (ev_dep (j := 6) (by kernel_rfl) rfl rfl) (ev_dep (j := 10) (by kernel_rfl) rfl rfl) (fun _ _ _ hx hy => ⟨.int .i64 0, by rw [hx, hy]; kernel_rfl, rfl⟩)) ?_
              refine And.intro (ob_bin rfl (wt_dep (c := true) (b := true) (g := 3) rfl (by kernel_rfl) rfl rfl rfl (by exact fun _ _ h => h)) (ev_dep (j := 11) (by kernel_rfl) rfl rfl) (ev_const _) (fun _ _ _ hx hy => ⟨.bool ((0 : Int) == 0), by rw [hx, hy]; exact bin_eql_int _ _ _ _ _, congrArg Value.bool (by decide)⟩)) ?_
              refine And.intro (ob_pick (b := true) rfl (wt_none rfl) (ev_dep (j := 3) (by kernel_rfl) rfl rfl) (ev_dep (j := 12) (by kernel_rfl) rfl rfl) (fun _ _ h => h)) ?_
              refine And.intro (ob_move rfl (wt_none rfl) (ev_dep (j := 13) (by kernel_rfl) rfl rfl) (fun _ _ h => h)) ?_
              refine And.intro (ob_call0 rfl Tryz.func8 (by kernel_rfl) (wt_dep (c := true) (b := true) (g := 14) rfl (by kernel_rfl) rfl rfl rfl (by exact fun _ _ h => h)) (fun w2 hb => (works9_any _).mono fun e w3 h => RetV.pd h)) ?_
              refine And.intro (ob_pick (b := true) rfl (wt_none rfl) (ev_dep (j := 14) (by kernel_rfl) rfl rfl) (ev_dep (j := 15) (by kernel_rfl) rfl rfl) (fun _ _ h => h)) ?_
              refine And.intro (ob_assign rfl (wt_none rfl) (ev_dep (j := 16) (by kernel_rfl) rfl rfl) (fun _ _ h => h)) ?_
              trivial
            case done13 =>
              refine fun w7 hb7 v0 h0 v1 h1 v2 h2 v3 h3 v4 h4 v5 h5 v6 h6 v7 h7 v8 h8 v9 h9 v10 h10 v11 h11 v12 h12 v13 h13 v14 h14 v15 h15 v16 h16 v17 h17 b hbf => ?_
              obtain rfl := h0; obtain rfl := h1; obtain rfl := h2; obtain rfl := h3; obtain rfl := h4; obtain rfl := h5; obtain rfl := h6; obtain rfl := h7; obtain rfl := h8; obtain rfl := h9; obtain rfl := h10; obtain rfl := h11; obtain rfl := h12; obtain rfl := h13; obtain rfl := h14; obtain rfl := h15; obtain rfl := h16; obtain rfl := h17
              simp only [Act.put, List.setIfInBounds_toArray, List.set_cons_zero, List.set_cons_succ] at hbf
              subst hbf
              replace BA3 := BA3.below hb7
              replace BA5 := BA5.below hb7
              replace bb := bb.trans (hb7.mono bb.size)
              have hsz7 := bb.size
              refine ops_done ?_
              go_wp2
              go_ret
              exact ⟨rfl, bb⟩
set_option maxRecDepth 100000 in
theorem lifted (os : Os) (started : os.Started) (H : Type) (enc : TypeId × Value → H) :
    ReturnsInHanded {} Tryz.checked os 3 .any (fun w args => (Rows.ratioParsesSpec.pre enc Tryz.prog Tryz.f3 Rows.ratioParsesRow.domain false w args ∧ laidMetH Tryz.prog Rows.ratioParsesRow.laid w) ∧ sizedMet enc Tryz.prog Tryz.f3 (OpenSpec.ofChange Rows.ratioParsesSpec) false w args)
      (Rows.ratioParsesSpec.post enc Tryz.prog Tryz.f3 false true false false) := by
  refine returnsInHanded_of_change_and (C := Tryz.checked) (X := fun w _ => laidMetH Tryz.prog Rows.ratioParsesRow.laid w) (fun _ _ _ hh h => h.of_heap hh) own started (by kernel_rfl) Tryz.func3
    (ChangeSpec.witness_shaped (enc := enc) (C := Tryz.checked) (os := os) (X := fun w _ => laidMetH Tryz.prog Rows.ratioParsesRow.laid w) false (World.laidAll Tryz.prog os Rows.ratioParsesRow.laid) #[.string ⟨#[]⟩] 8 (World.laidAll_os _ _ _)
      (World.shaped_of_ZipB (by kernel_rfl) (by kernel_rfl)) (by kernel_rfl) (by kernel_rfl) (by kernel_rfl)
      (by rw [MakeChecks.laidMetH_plain _ _ _ (by kernel_rfl)]; exact laidMet_laidAll _ (by kernel_rfl) (by kernel_rfl))) ?_
  intro W base args ds gs before hval0 hW hcnd _ hL _
  have hval : ∀ (j : Nat) t v, Tryz.f3.params[j]? = some t → args[j]? = some v → Value.okWide Tryz.prog W .any base t v := hval0
  have hW' := hW
  obtain ⟨p, q, hA0, hV, rfl, hfz, hnd⟩ := hW
  have hA : DataW.TrodAll enc Tryz.prog W 0 (fun _ => true) true Tryz.f3.params.toList args.toList ds p := hA0
  rw [Tryz.params3] at hA hval
  obtain ⟨v0, vs0, d0, ds0, p0, q0, hargs, rfl, rfl, t0, r0⟩ := trodAll_cons hA
  obtain ⟨rfl, rfl, rfl⟩ := trodAll_nil r0
  obtain rfl : args = #[v0] := by cases args; simp_all
  obtain ⟨rfl, rfl⟩ := trodVars_none hV
  obtain ⟨S0, rfl, hd0, hp0, hs0⟩ := Go.ChangeMaps.open_string Tryz.underlying9 (hval 0 9 v0 rfl rfl) t0
  clear hA0 hval0
  simp only [List.append_nil] at hW'
  have hlt0 : ∀ x ∈ p0, x.block < W.heap.size := fun x hx => hW'.lt x (hx)
  refine (walk S0 W hs0).mono fun e W' ⟨he, hb⟩ => ?_
  subst he
  have s0 := Below.trod laidOut (by kernel_rfl) (of_decide_eq_true (by kernel_rfl)) t0 hb hlt0
  exact ⟨_, rfl, _, _, _, [] ++ [], _, [], hW', trodAll_cons_mk (shut_bool Tryz.underlying4 _) trodAll_mk0, trodAll_cons_mk s0 (trodAll_mk0), rfl, hb.frame _, fun h => by cases h⟩
theorem over : Rows.ratioParsesRow.holds Tryz.pinned (OpenSpec.ofChange Rows.ratioParsesSpec) :=
  OpenClaim.holds_of_wide 3 Tryz.f3 rfl rfl rfl rfl rfl rfl rfl ⟨rfl, rfl, rfl, rfl, rfl⟩ rfl rfl rfl rfl rfl (by kernel_rfl) Tryz.func3 (by kernel_rfl)
    (of_decide_eq_true (by kernel_rfl)) (by unfold Func.isWrapper; first | (rw [if_pos (by decide +kernel)]; kernel_rfl) | (rw [if_neg (by decide +kernel)]; exact ⟨rfl, rfl⟩))
    (fun os started H enc _ => lifted os started H enc)
/-- The statement: the card. -/
theorem proved : Rows.RatioParsesCardSaid :=
  Claim7.holds_tied_plain_at .later [] [.data, .pinned] true _ false over (fun _ h => by cases h) (by kernel_rfl) (fun _ h => by cases h) ratioParses_row_tie rfl ⟨rfl, rfl⟩ (by kernel_rfl) rfl
    (fun f fn hf hfn => by
      obtain rfl : f = 3 := Option.some.inj ((show Tryz.prog.funcNamed Rows.ratioParsesRow.func = some 3 by kernel_rfl).symm.trans hf) |>.symm
      obtain rfl : fn = Tryz.f3 := (Option.some.inj (Tryz.func3.symm.trans hfn)).symm
      exact ⟨by kernel_rfl, fun j t ht => by
        rw [Tryz.params3] at ht
        have hm : t ∈ [9] := by simpa using Array.mem_of_getElem? ht
        have hall : ([9].all fun u => !Tryz.prog.wantsStandIn u) = true := by kernel_rfl
        exact (show Tryz.prog.wantsStandIn t = false by simpa using List.all_eq_true.1 hall t hm)⟩)
    (by kernel_rfl)
end Go.Proofs.YtpcllhdfalebbaaGreatDoor.ratioParses
