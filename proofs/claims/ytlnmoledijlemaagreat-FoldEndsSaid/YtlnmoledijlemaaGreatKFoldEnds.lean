/- FoldEnds: the least and the greatest one of any fractions. Condition: the arguments can be read as data. -/
import Derived.Test.YtlnmoledijlemaaGreatK6
import Derived.Deep.Cut
import Derived.OpenShut
import Derived.LaidMore
import Derived.Lay
import Derived.Stop.Joined
namespace Go.Proofs.YtlnmoledijlemaaGreat.foldEnds
open Go.ChangeShapes Go.WideShapes Go.ChangeAt Go.RowKit Go.Proofs.YtlnmoledijlemaaGreat.num Go.Proofs.YtlnmoledijlemaaGreat.mem Go.Proofs.YtlnmoledijlemaaGreat.nat Go.Proofs.YtlnmoledijlemaaGreat.txt Go.Proofs.YtlnmoledijlemaaGreat.str Go.Proofs.YtlnmoledijlemaaGreat.flow Go.Proofs.YtlnmoledijlemaaGreat.whl Go.Proofs.YtlnmoledijlemaaGreat.rat
set_option linter.unusedVariables false
theorem own : ownKnob Tryz.prog.godebug = none := by kernel_rfl
theorem laidOut : laidOutB Tryz.prog = true := by kernel_rfl
theorem cells_u : Tryz.prog.cellsOf 71 = 1 := by kernel_rfl
set_option maxHeartbeats 6400000 in
set_option maxRecDepth 100000 in
/-- The walk: the Go text returns true; what was there is as it was. -/
theorem walk (v0 : Value) (w : World) (h0 : ArgQs w v0) :
    Calls Tryz.prog 4 #[v0] w (RetV (.bool true) w) := by
  go_enter Tryz.func4, Tryz.ntmps4
  have bb : Below w.heap.size w w := Below.refl _ _
  have hsz0 := bb.size
  go_wp2_with fail
  refine (few_any v0 _ h0).mono ?_
  rintro e w1 ⟨V, U, qs, rfl, hV, hU, hlen, hlq, hb1, hfV, hfU⟩
  clear hfV hfU
  replace bb := bb.trans (hb1.mono bb.size)
  have hsz1 := bb.size
  have hq2 : ∀ q ∈ qs, lenQ q 2 := hlq
  obtain ⟨SM, hSM⟩ : ∃ SM, SM = sumq qs := ⟨_, rfl⟩
  obtain ⟨PR, hPR⟩ : ∃ PR, PR = prodq qs := ⟨_, rfl⟩
  obtain ⟨WB, hWB⟩ : ∃ WB, WB = decide (wholeQ qs) := ⟨_, rfl⟩
  have HLQ := Lib.hid hlq
  have lSM : lenQ SM 25 := by rw [hSM]; exact (lenQ_sumq hlq).mono (by omega)
  have lPR : lenQ PR 25 := by rw [hPR]; exact (lenQ_prodq hlq).mono (by omega)
  have HSM := Lib.hid hSM.symm
  have HPR := Lib.hid hPR.symm
  have HWB := Lib.hid hWB
  have HLS : Hid ((∀ q ∈ qs, lenQ q 2) ∧ (2 + 1) * qs.length + 1 ≤ 1000) := ⟨hlq, by omega⟩
  have HLP : Hid ((∀ q ∈ qs, lenQ q 2) ∧ 2 * qs.length + 1 ≤ 1000) := ⟨hlq, by omega⟩
  have HL8 : Hid (qs.length ≤ 8) := hlen
  clear hSM hPR hWB hlq hq2
  have lq1 : lenQ (1 : Rat) 1 := ⟨digs_len_le (k := 1) (by omega) (by decide +kernel), digs_len_le (k := 1) (by omega) (by decide +kernel)⟩
  have hq2 := HLQ.out
  by_cases hq0 : qs = []
  · obtain rfl := hq0
    obtain ⟨AU, cU, rfl, _, _⟩ := hU.shape
    obtain ⟨AV, cV, rfl, _, _⟩ := hV.shape
    have HV0 := Lib.hid hV
    clear hV hU
    go_upto_region 2 with (fail)
    refine flowp 6 [Pd.eq (.slice AV ([] : List Rat).length cV), Pd.eq (.tuple #[.agg #[.bool false, .slice none 0 0, .slice none 0 0], .int .i64 9]), Pd.eq (.tuple #[.agg #[.bool false, .slice none 0 0, .slice none 0 0], .int .i64 9]), Pd.eq (.agg #[.bool false, .slice none 0 0, .slice none 0 0]), Pd.eq (.int .i64 9), pn 28 #[.bool false, .slice none 0 0, .slice none 0 0] w1.heap.size] (by kernel_rfl) ?ob4 ?done4
    case ob4 =>
      refine And.intro (ob_move rfl (wt_none rfl) (ev_far rfl rfl) (fun _ _ h => h)) ?_
      refine And.intro (ob_call1 rfl Tryz.func24 (by kernel_rfl) (wt_none rfl) (ev_dep (j := 0) (by kernel_rfl) rfl rfl) (fun w2 u0 hb h0 => by obtain rfl := h0; exact (fleast_none _ _ HV0.out.any).mono fun e w3 h => RetQN.pd h)) ?_
      refine And.intro (ob_move rfl (wt_none rfl) (ev_dep (j := 1) (by kernel_rfl) rfl rfl) (fun _ _ h => h)) ?_
      refine And.intro (ob_extract rfl (wt_none rfl) (ev_dep (j := 2) (by kernel_rfl) rfl rfl) (fun w2 u hu => by obtain rfl := hu; exact ⟨_, rfl, rfl⟩)) ?_
      refine And.intro (ob_extract rfl (wt_none rfl) (ev_dep (j := 2) (by kernel_rfl) rfl rfl) (fun w2 u hu => by obtain rfl := hu; exact ⟨_, rfl, rfl⟩)) ?_
      refine And.intro (ob_alloc (z := .agg #[.bool false, .slice none 0 0, .slice none 0 0]) rfl rfl (fun _ => by kernel_rfl) (fun _ _ hB h => ⟨_, rfl, hB, h⟩)) ?_
      trivial
    case done4 =>
      refine fun w2 hb2 v0 h0 v1 h1 v2 h2 v3 h3 v4 h4 v5 h5 d5 b hbf => ?_
      obtain rfl := h0; obtain rfl := h1; obtain rfl := h2; obtain rfl := h3; obtain rfl := h4
      obtain ⟨g4_5, rfl, hg5, B5⟩ := h5
      simp only [Act.put, List.setIfInBounds_toArray, List.set_cons_zero, List.set_cons_succ] at hbf
      subst hbf
      replace bb := bb.trans (hb2.mono bb.size)
      have hsz2 := bb.size
      have BA5 := B5
      refine ops_store (i := 6) rfl rfl rfl rfl rfl rfl (cells := [.bool false, .slice none 0 0, .slice none 0 0]) rfl BA5 rfl (by kernel_rfl) (one3 rfl rfl rfl) fun w3 hg3 BN3 => ?_
      replace bb := bb.trans ((Below.refl _ _).grown hg3 bb.size (fun g hg => by injection hg with hg; omega))
      have hsz3 := bb.size
      replace BA5 : Blk w3 (g4_5) _ #[.bool false, .slice none 0 0, .slice none 0 0] := BN3
      refine ops_assign (i := 7) (.int .i64 9) rfl rfl rfl rfl rfl fun b hbf => ?_
      simp only [Act.put, List.setIfInBounds_toArray, List.set_cons_zero, List.set_cons_succ] at hbf
      subst hbf
      refine ops_done ?_
      go_upto_region 3 with (fail)
      have lt3_5 := Blk.lt BA5
      refine flowp 6 [Pd.eq (.slice AV ([] : List Rat).length cV), Pd.eq (.tuple #[.agg #[.bool false, .slice none 0 0, .slice none 0 0], .int .i64 9]), Pd.eq (.tuple #[.agg #[.bool false, .slice none 0 0, .slice none 0 0], .int .i64 9]), Pd.eq (.agg #[.bool false, .slice none 0 0, .slice none 0 0]), Pd.eq (.int .i64 9), pn 28 #[.bool false, .slice none 0 0, .slice none 0 0] w3.heap.size] (by kernel_rfl) ?ob5 ?done5
      case ob5 =>
        refine And.intro (ob_move rfl (wt_none rfl) (ev_far rfl rfl) (fun _ _ h => h)) ?_
        refine And.intro (ob_call1 rfl Tryz.func25 (by kernel_rfl) (wt_none rfl) (ev_dep (j := 0) (by kernel_rfl) rfl rfl) (fun w2 u0 hb h0 => by obtain rfl := h0; exact (fgreat_none _ _ HV0.out.any).mono fun e w3 h => RetQN.pd h)) ?_
        refine And.intro (ob_move rfl (wt_none rfl) (ev_dep (j := 1) (by kernel_rfl) rfl rfl) (fun _ _ h => h)) ?_
        refine And.intro (ob_extract rfl (wt_none rfl) (ev_dep (j := 2) (by kernel_rfl) rfl rfl) (fun w2 u hu => by obtain rfl := hu; exact ⟨_, rfl, rfl⟩)) ?_
        refine And.intro (ob_extract rfl (wt_none rfl) (ev_dep (j := 2) (by kernel_rfl) rfl rfl) (fun w2 u hu => by obtain rfl := hu; exact ⟨_, rfl, rfl⟩)) ?_
        refine And.intro (ob_alloc (z := .agg #[.bool false, .slice none 0 0, .slice none 0 0]) rfl rfl (fun _ => by kernel_rfl) (fun _ _ hB h => ⟨_, rfl, hB, h⟩)) ?_
        trivial
      case done5 =>
        refine fun w4 hb4 v0 h0 v1 h1 v2 h2 v3 h3 v4 h4 v5 h5 d5 b hbf => ?_
        obtain rfl := h0; obtain rfl := h1; obtain rfl := h2; obtain rfl := h3; obtain rfl := h4
        obtain ⟨g5_5, rfl, hg5, B5⟩ := h5
        simp only [Act.put, List.setIfInBounds_toArray, List.set_cons_zero, List.set_cons_succ] at hbf
        subst hbf
        replace BA5 := BA5.below hb4
        replace bb := bb.trans (hb4.mono bb.size)
        have hsz4 := bb.size
        have BA7 := B5
        refine ops_store (i := 6) rfl rfl rfl rfl rfl rfl (cells := [.bool false, .slice none 0 0, .slice none 0 0]) rfl BA7 rfl (by kernel_rfl) (one3 rfl rfl rfl) fun w5 hg5 BN5 => ?_
        replace BA5 := BA5.grown hg5 (by omega)
        replace bb := bb.trans ((Below.refl _ _).grown hg5 bb.size (fun g hg => by injection hg with hg; omega))
        have hsz5 := bb.size
        replace BA7 : Blk w5 (g5_5) _ #[.bool false, .slice none 0 0, .slice none 0 0] := BN5
        refine ops_assign (i := 7) (.int .i64 9) rfl rfl rfl rfl rfl fun b hbf => ?_
        simp only [Act.put, List.setIfInBounds_toArray, List.set_cons_zero, List.set_cons_succ] at hbf
        subst hbf
        refine ops_done ?_
        go_wp2_with fail
        refine (works10_any _).mono ?_
        rintro e w9 ⟨rfl, b9⟩
        have bb9 := bb.trans (b9.mono bb.size)
        go_wp2
        go_ret
        exact ⟨rfl, bb9⟩
  · have hne : qs ≠ [] := hq0
    clear hq0
    obtain ⟨q0, hq0⟩ : ∃ q0, qs[0]? = some q0 := ⟨_, List.getElem?_eq_getElem (List.length_pos_iff.2 hne)⟩
    obtain ⟨gV_, oV_, cV_, rfl, _, _, hmV_⟩ := hV.place hne
    obtain ⟨gU_, oU_, cU_, rfl, _, _, hmU_⟩ := hU.place hne
    obtain ⟨LO, hLO⟩ : ∃ LO, LO = leastq qs := ⟨_, rfl⟩
    obtain ⟨HI, hHI⟩ : ∃ HI, HI = greatq qs := ⟨_, rfl⟩
    have lLO : lenQ LO 2 := by rw [hLO]; exact hq2 _ (leastq_mem hne)
    have lHI : lenQ HI 2 := by rw [hHI]; exact hq2 _ (greatq_mem hne)
    have lq0 : lenQ q0 2 := hq2 _ (List.mem_of_getElem? hq0)
    have HLO := Lib.hid hLO
    have HHI := Lib.hid hHI
    have HQ0 := Lib.hid hq0
    have HN0 : Hid (qs.length ≠ 0) := fun e => hne (List.length_eq_zero_iff.1 e)
    have hln : 0 < qs.length := List.length_pos_iff.2 hne
    clear hLO hHI hq0
    have ltV1 := hV.lt hne
    have ltU1 := hU.lt hne
    go_upto_region 2 with (fail)
    refine flowp 6 [Pd.eq (.slice (some ⟨gV_, oV_, none⟩) qs.length cV_), pqe (LO) 0, pqe (LO) 0, pqn (LO), Pd.eq (.int .i64 0), pn 28 #[.bool false, .slice none 0 0, .slice none 0 0] w1.heap.size] (by kernel_rfl) ?ob6 ?done6
    case ob6 =>
      refine And.intro (ob_move rfl (wt_none rfl) (ev_far rfl rfl) (fun _ _ h => h)) ?_
      refine And.intro (ob_call1 rfl Tryz.func24 (by kernel_rfl) (wt_none rfl) (ev_dep (j := 0) (by kernel_rfl) rfl rfl) (fun w2 u0 hb h0 => by obtain rfl := h0; exact (HLO.out ▸ fleast_ok _ qs _ (hV.below hb) hne ⟨hlen, HLQ.out⟩).mono fun e w3 h => RetQE.pd h)) ?_
      refine And.intro (ob_move rfl (wt_none rfl) (ev_dep (j := 1) (by kernel_rfl) rfl rfl) (fun _ _ h => h)) ?_
      refine And.intro (ob_extract rfl (wt_none rfl) (ev_dep (j := 2) (by kernel_rfl) rfl rfl) (fun w2 u hu => by obtain ⟨v, rfl, q1⟩ := hu; exact ⟨v, rfl, q1⟩)) ?_
      refine And.intro (ob_extract rfl (wt_none rfl) (ev_dep (j := 2) (by kernel_rfl) rfl rfl) (fun w2 u hu => by obtain ⟨v, rfl, q1⟩ := hu; exact ⟨_, rfl, rfl⟩)) ?_
      refine And.intro (ob_alloc (z := .agg #[.bool false, .slice none 0 0, .slice none 0 0]) rfl rfl (fun _ => by kernel_rfl) (fun _ _ hB h => ⟨_, rfl, hB, h⟩)) ?_
      trivial
    case done6 =>
      refine fun w2 hb2 v0 h0 v1 h1 v2 h2 v3 h3 v4 h4 v5 h5 d5 b hbf => ?_
      obtain rfl := h0; obtain rfl := h4
      clear h1
      clear h2
      have q3 := h3
      obtain ⟨g6_5, rfl, hg5, B5⟩ := h5
      simp only [Act.put, List.setIfInBounds_toArray, List.set_cons_zero, List.set_cons_succ] at hbf
      subst hbf
      replace hV := hV.below hb2
      replace hU := hU.below hb2
      replace bb := bb.trans (hb2.mono bb.size)
      have hsz2 := bb.size
      have BA5 := B5
      obtain ⟨u3, t3, rfl, q3, d3⟩ := q3
      obtain ⟨Aa, ca, rfl, _⟩ := id q3
      obtain ⟨Da, ea, rfl, _⟩ := id d3
      refine ops_store (i := 6) rfl rfl rfl rfl rfl rfl (cells := [.bool (ngB (LO).num), .slice Aa (digs 4294967296 (LO).num.natAbs).length ca, .slice Da (digs 4294967296 (LO).den).length ea]) rfl BA5 rfl (by kernel_rfl) (one3 rfl rfl rfl) fun w3 hg3 BN3 => ?_
      replace hV := hV.off BA5 no_ints3 hg3 (fun e => by have e2 : gV_ = g6_5 := Option.some.inj e; omega)
      replace hU := hU.off BA5 no_ints3 hg3 (fun e => by have e2 : gU_ = g6_5 := Option.some.inj e; omega)
      replace q3 := off q3 BA5 no_ints3 hg3
      replace d3 := off d3 BA5 no_ints3 hg3
      replace bb := bb.trans ((Below.refl _ _).grown hg3 bb.size (fun g hg => by injection hg with hg; omega))
      have hsz3 := bb.size
      have Ba : Blk w3 (g6_5) _ _ := BN3
      have kas := q3
      have kad := d3
      have kaz : IsZ w3 (.agg #[.bool (ngB (LO).num), .slice Aa (digs 4294967296 (LO).num.natAbs).length ca]) ((LO).num) := ⟨_, rfl, kas⟩
      have ka : IsQ w3 (.agg #[.bool (ngB (LO).num), .slice Aa (digs 4294967296 (LO).num.natAbs).length ca, .slice Da (digs 4294967296 (LO).den).length ea]) (LO) := ⟨_, _, rfl, kas, kad⟩
      refine ops_assign (i := 7) (.int .i64 0) rfl rfl rfl rfl rfl fun b hbf => ?_
      simp only [Act.put, List.setIfInBounds_toArray, List.set_cons_zero, List.set_cons_succ] at hbf
      subst hbf
      refine ops_done ?_
      have ltV3 := hV.lt hne
      have ltU3 := hU.lt hne
      go_upto_region 3 with (fail)
      have lt3_5 := Blk.lt Ba
      refine flowp 6 [Pd.eq (.slice (some ⟨gV_, oV_, none⟩) qs.length cV_), pqe (HI) 0, pqe (HI) 0, pqn (HI), Pd.eq (.int .i64 0), pn 28 #[.bool false, .slice none 0 0, .slice none 0 0] w3.heap.size] (by kernel_rfl) ?ob7 ?done7
      case ob7 =>
        refine And.intro (ob_move rfl (wt_none rfl) (ev_far rfl rfl) (fun _ _ h => h)) ?_
        refine And.intro (ob_call1 rfl Tryz.func25 (by kernel_rfl) (wt_none rfl) (ev_dep (j := 0) (by kernel_rfl) rfl rfl) (fun w2 u0 hb h0 => by obtain rfl := h0; exact (HHI.out ▸ fgreat_ok _ qs _ (hV.below hb) hne ⟨hlen, HLQ.out⟩).mono fun e w3 h => RetQE.pd h)) ?_
        refine And.intro (ob_move rfl (wt_none rfl) (ev_dep (j := 1) (by kernel_rfl) rfl rfl) (fun _ _ h => h)) ?_
        refine And.intro (ob_extract rfl (wt_none rfl) (ev_dep (j := 2) (by kernel_rfl) rfl rfl) (fun w2 u hu => by obtain ⟨v, rfl, q1⟩ := hu; exact ⟨v, rfl, q1⟩)) ?_
        refine And.intro (ob_extract rfl (wt_none rfl) (ev_dep (j := 2) (by kernel_rfl) rfl rfl) (fun w2 u hu => by obtain ⟨v, rfl, q1⟩ := hu; exact ⟨_, rfl, rfl⟩)) ?_
        refine And.intro (ob_alloc (z := .agg #[.bool false, .slice none 0 0, .slice none 0 0]) rfl rfl (fun _ => by kernel_rfl) (fun _ _ hB h => ⟨_, rfl, hB, h⟩)) ?_
        trivial
      case done7 =>
        refine fun w4 hb4 v0 h0 v1 h1 v2 h2 v3 h3 v4 h4 v5 h5 d5 b hbf => ?_
        obtain rfl := h0; obtain rfl := h4
        clear h1
        clear h2
        have q3 := h3
        obtain ⟨g7_5, rfl, hg5, B5⟩ := h5
        simp only [Act.put, List.setIfInBounds_toArray, List.set_cons_zero, List.set_cons_succ] at hbf
        subst hbf
        replace Ba := Ba.below hb4
        replace kas := kas.below hb4
        replace kad := kad.below hb4
        replace kaz := kaz.below hb4
        replace ka := ka.below hb4
        replace hV := hV.below hb4
        replace hU := hU.below hb4
        replace bb := bb.trans (hb4.mono bb.size)
        have hsz4 := bb.size
        have BA7 := B5
        obtain ⟨u3, t3, rfl, q3, d3⟩ := q3
        obtain ⟨Ab, cb, rfl, _⟩ := id q3
        obtain ⟨Db, eb, rfl, _⟩ := id d3
        refine ops_store (i := 6) rfl rfl rfl rfl rfl rfl (cells := [.bool (ngB (HI).num), .slice Ab (digs 4294967296 (HI).num.natAbs).length cb, .slice Db (digs 4294967296 (HI).den).length eb]) rfl BA7 rfl (by kernel_rfl) (one3 rfl rfl rfl) fun w5 hg5 BN5 => ?_
        replace hV := hV.off BA7 no_ints3 hg5 (fun e => by have e2 : gV_ = g7_5 := Option.some.inj e; omega)
        replace hU := hU.off BA7 no_ints3 hg5 (fun e => by have e2 : gU_ = g7_5 := Option.some.inj e; omega)
        replace q3 := off q3 BA7 no_ints3 hg5
        replace d3 := off d3 BA7 no_ints3 hg5
        replace kas := off kas BA7 no_ints3 hg5
        replace kad := off kad BA7 no_ints3 hg5
        replace kaz : IsZ w5 (.agg #[.bool (ngB (LO).num), .slice Aa (digs 4294967296 (LO).num.natAbs).length ca]) ((LO).num) := ⟨_, rfl, kas⟩
        replace ka : IsQ w5 (.agg #[.bool (ngB (LO).num), .slice Aa (digs 4294967296 (LO).num.natAbs).length ca, .slice Da (digs 4294967296 (LO).den).length ea]) (LO) := ⟨_, _, rfl, kas, kad⟩
        replace Ba := Ba.grown hg5 (by omega)
        replace bb := bb.trans ((Below.refl _ _).grown hg5 bb.size (fun g hg => by injection hg with hg; omega))
        have hsz5 := bb.size
        have Bb : Blk w5 (g7_5) _ _ := BN5
        have kbs := q3
        have kbd := d3
        have kbz : IsZ w5 (.agg #[.bool (ngB (HI).num), .slice Ab (digs 4294967296 (HI).num.natAbs).length cb]) ((HI).num) := ⟨_, rfl, kbs⟩
        have kb : IsQ w5 (.agg #[.bool (ngB (HI).num), .slice Ab (digs 4294967296 (HI).num.natAbs).length cb, .slice Db (digs 4294967296 (HI).den).length eb]) (HI) := ⟨_, _, rfl, kbs, kbd⟩
        refine ops_assign (i := 7) (.int .i64 0) rfl rfl rfl rfl rfl fun b hbf => ?_
        simp only [Act.put, List.setIfInBounds_toArray, List.set_cons_zero, List.set_cons_succ] at hbf
        subst hbf
        refine ops_done ?_
        have hn0 : (((qs.length : Nat) : Int) == 0) = false := by rw [beq_eq_false_iff_ne]; omega
        obtain ⟨ulo, tlo, hltlo, zlo0, zlo1, zlo2, zlos, zlod⟩ := hU.at2 HQ0.out
        obtain ⟨Alo, clo, rfl, _⟩ := id zlos
        obtain ⟨Dlo, elo, rfl, _⟩ := id zlod
        have zlo : IsP w5 (.agg #[.bool (ngB (q0).num), .slice Alo (digs 10000 (q0).num.natAbs).length clo, .slice Dlo (digs 10000 (q0).den).length elo]) (q0) := ⟨_, _, rfl, zlos, zlod⟩
        obtain ⟨uhi, thi, hlthi, zhi0, zhi1, zhi2, zhis, zhid⟩ := hU.at2 HQ0.out
        obtain ⟨Ahi, chi, rfl, _⟩ := id zhis
        obtain ⟨Dhi, ehi, rfl, _⟩ := id zhid
        have zhi : IsP w5 (.agg #[.bool (ngB (q0).num), .slice Ahi (digs 10000 (q0).num.natAbs).length chi, .slice Dhi (digs 10000 (q0).den).length ehi]) (q0) := ⟨_, _, rfl, zhis, zhid⟩
        have ltV5 := hV.lt hne
        have ltU5 := hU.lt hne
        go_upto_region 6 with (fail)
        have lt5_5 := Blk.lt Ba
        have lt5_7 := Blk.lt Bb
        refine flowh 8 [Pd.eq (.slice (some ⟨gU_, oU_, none⟩) qs.length cU_), Pd.eq (.pointer (some ⟨gU_, oU_ + 0 * 3, none⟩)), Pd.eq (.agg #[.bool (ngB (q0).num), .slice Alo (digs 10000 (q0).num.natAbs).length clo, .slice Dlo (digs 10000 (q0).den).length elo]), Pd.eq (.slice (some ⟨gU_, oU_, none⟩) qs.length cU_), Pd.eq (.pointer (some ⟨gU_, oU_ + 0 * 3, none⟩)), Pd.eq (.agg #[.bool (ngB (q0).num), .slice Ahi (digs 10000 (q0).num.natAbs).length chi, .slice Dhi (digs 10000 (q0).den).length ehi]), pn 41 #[.bool false, .slice none 0 0, .slice none 0 0] w5.heap.size, pn 41 #[.bool false, .slice none 0 0, .slice none 0 0] w5.heap.size] (by kernel_rfl) [3, 4, 5] (by kernel_rfl) (fun _ _ _ d _ h => by cases d <;> exact h) ⟨⟨_, rfl, lateh_move rfl (wt_none rfl) (ev_far rfl rfl) (fun _ _ h => h)⟩, ⟨_, rfl, lateh_indexAddr rfl (wt_none rfl) (ev_dep (j := 3) (by kernel_rfl) rfl rfl) (ev_const _) (fun _ _ _ hx hy => ⟨_, fun _ => by rw [hx, hy]; exact index3 (k := 0) Tryz.underlying29 (by kernel_rfl) hlthi _, rfl⟩)⟩, ⟨_, rfl, lateh_load rfl (wt_none rfl) (ev_dep (j := 4) (by kernel_rfl) rfl rfl) (fun w2 hb => load3 Tryz.underlying41 rfl (by kernel_rfl) ((hb.cell (World.block_lt_of_cell? w5 _ zhi0)).trans zhi0) ((hb.cell (World.block_lt_of_cell? w5 _ zhi1)).trans zhi1) ((hb.cell (World.block_lt_of_cell? w5 _ zhi2)).trans zhi2)) (fun _ _ => rfl)⟩, trivial⟩ ?ob8 ?done8
        case ob8 =>
          refine And.intro (ob_move rfl (wt_none rfl) (ev_far rfl rfl) (fun _ _ h => h)) ?_
          refine And.intro (ob_indexAddr rfl (wt_none rfl) (ev_dep (j := 0) (by kernel_rfl) rfl rfl) (ev_const _) (fun _ _ _ hx hy => ⟨_, by rw [hx, hy]; exact index3 (k := 0) Tryz.underlying29 (by kernel_rfl) hltlo _, rfl⟩)) ?_
          refine And.intro (ob_load rfl (wt_none rfl) (ev_dep (j := 1) (by kernel_rfl) rfl rfl) (fun w2 hb => load3 Tryz.underlying41 rfl (by kernel_rfl) ((hb.cell (World.block_lt_of_cell? w5 _ zlo0)).trans zlo0) ((hb.cell (World.block_lt_of_cell? w5 _ zlo1)).trans zlo1) ((hb.cell (World.block_lt_of_cell? w5 _ zlo2)).trans zlo2)) (fun _ _ => rfl)) ?_
          refine And.intro (ob_move rfl (wt_none rfl) (ev_far rfl rfl) (fun _ _ h => h)) ?_
          refine And.intro (ob_indexAddr rfl (wt_none rfl) (ev_dep (j := 3) (by kernel_rfl) rfl rfl) (ev_const _) (fun _ _ _ hx hy => ⟨_, by rw [hx, hy]; exact index3 (k := 0) Tryz.underlying29 (by kernel_rfl) hlthi _, rfl⟩)) ?_
          refine And.intro (ob_load rfl (wt_none rfl) (ev_dep (j := 4) (by kernel_rfl) rfl rfl) (fun w2 hb => load3 Tryz.underlying41 rfl (by kernel_rfl) ((hb.cell (World.block_lt_of_cell? w5 _ zhi0)).trans zhi0) ((hb.cell (World.block_lt_of_cell? w5 _ zhi1)).trans zhi1) ((hb.cell (World.block_lt_of_cell? w5 _ zhi2)).trans zhi2)) (fun _ _ => rfl)) ?_
          refine And.intro (ob_alloc (z := .agg #[.bool false, .slice none 0 0, .slice none 0 0]) rfl rfl (fun _ => by kernel_rfl) (fun _ _ hB h => ⟨_, rfl, hB, h⟩)) ?_
          refine And.intro (ob_alloc (z := .agg #[.bool false, .slice none 0 0, .slice none 0 0]) rfl rfl (fun _ => by kernel_rfl) (fun _ _ hB h => ⟨_, rfl, hB, h⟩)) ?_
          trivial
        case done8 =>
          refine fun w6 hb6 v0 h0 v1 h1 v2 h2 v3 h3 v4 h4 v5 h5 v6 h6 d6 v7 h7 d7 b hbf => ?_
          have hbH := hb6
          obtain rfl := h0; obtain rfl := h1; obtain rfl := h2; obtain rfl := h3; obtain rfl := h4; obtain rfl := h5
          obtain ⟨g8_6, rfl, hg6, B6⟩ := h6
          obtain ⟨g8_7, rfl, hg7, B7⟩ := h7
          simp only [Act.put, List.setIfInBounds_toArray, List.set_cons_zero, List.set_cons_succ] at hbf
          subst hbf
          replace Ba := Ba.below hb6
          replace kas := kas.below hb6
          replace kad := kad.below hb6
          replace kaz := kaz.below hb6
          replace ka := ka.below hb6
          replace Bb := Bb.below hb6
          replace kbs := kbs.below hb6
          replace kbd := kbd.below hb6
          replace kbz := kbz.below hb6
          replace kb := kb.below hb6
          replace hV := hV.below hb6
          replace hU := hU.below hb6
          replace zlos := zlos.below hb6
          replace zlod := zlod.below hb6
          replace zhis := zhis.below hb6
          replace zhid := zhid.below hb6
          replace bb := bb.trans (hb6.mono bb.size)
          have hsz6 := bb.size
          have q2 := zlos
          have d2 := zlod
          have q5 := zhis
          have d5 := zhid
          have BA9 := B6
          have BA10 := B7
          have hne6_7 : g8_6 ≠ g8_7 := fun e => d7 (.pointer (some ⟨g8_6, 0, none⟩)) (by simp) (by rw [e])
          refine anyh_store (i := 8) hbH (by omega) (by kernel_rfl) rfl rfl rfl rfl rfl rfl (cells := [.bool (ngB (q0).num), .slice Alo (digs 10000 (q0).num.natAbs).length clo, .slice Dlo (digs 10000 (q0).den).length elo]) rfl BA9 rfl (by kernel_rfl) (one3 rfl rfl rfl) fun w7 hg7 BN7 => ?_
          replace hV := hV.off BA9 no_ints3 hg7 (fun e => by have e2 : gV_ = g8_6 := Option.some.inj e; omega)
          replace hU := hU.off BA9 no_ints3 hg7 (fun e => by have e2 : gU_ = g8_6 := Option.some.inj e; omega)
          replace q5 := off q5 BA9 no_ints3 hg7
          replace d5 := off d5 BA9 no_ints3 hg7
          replace q2 := off q2 BA9 no_ints3 hg7
          replace d2 := off d2 BA9 no_ints3 hg7
          replace kas := off kas BA9 no_ints3 hg7
          replace kad := off kad BA9 no_ints3 hg7
          replace kaz : IsZ w7 (.agg #[.bool (ngB (LO).num), .slice Aa (digs 4294967296 (LO).num.natAbs).length ca]) ((LO).num) := ⟨_, rfl, kas⟩
          replace ka : IsQ w7 (.agg #[.bool (ngB (LO).num), .slice Aa (digs 4294967296 (LO).num.natAbs).length ca, .slice Da (digs 4294967296 (LO).den).length ea]) (LO) := ⟨_, _, rfl, kas, kad⟩
          replace Ba := Ba.grown hg7 (by omega)
          replace kbs := off kbs BA9 no_ints3 hg7
          replace kbd := off kbd BA9 no_ints3 hg7
          replace kbz : IsZ w7 (.agg #[.bool (ngB (HI).num), .slice Ab (digs 4294967296 (HI).num.natAbs).length cb]) ((HI).num) := ⟨_, rfl, kbs⟩
          replace kb : IsQ w7 (.agg #[.bool (ngB (HI).num), .slice Ab (digs 4294967296 (HI).num.natAbs).length cb, .slice Db (digs 4294967296 (HI).den).length eb]) (HI) := ⟨_, _, rfl, kbs, kbd⟩
          replace Bb := Bb.grown hg7 (by omega)
          replace BA10 := BA10.grown hg7 (by omega)
          replace hbH := hbH.trans ((Below.refl _ _).grown hg7 hbH.size (fun g hg => by injection hg with hg; omega))
          replace bb := bb.trans ((Below.refl _ _).grown hg7 bb.size (fun g hg => by injection hg with hg; omega))
          have hsz7 := bb.size
          have Blo : Blk w7 (g8_6) _ _ := BN7
          have klos := q2
          have klod := d2
          have kloz : IsR w7 (.agg #[.bool (ngB (q0).num), .slice Alo (digs 10000 (q0).num.natAbs).length clo]) ((q0).num) := ⟨_, rfl, klos⟩
          have klo : IsP w7 (.agg #[.bool (ngB (q0).num), .slice Alo (digs 10000 (q0).num.natAbs).length clo, .slice Dlo (digs 10000 (q0).den).length elo]) (q0) := ⟨_, _, rfl, klos, klod⟩
          refine anyh_store (i := 9) hbH (by omega) (by kernel_rfl) rfl rfl rfl rfl rfl rfl (cells := [.bool (ngB (q0).num), .slice Ahi (digs 10000 (q0).num.natAbs).length chi, .slice Dhi (digs 10000 (q0).den).length ehi]) rfl BA10 rfl (by kernel_rfl) (one3 rfl rfl rfl) fun w8 hg8 BN8 => ?_
          replace hV := hV.off BA10 no_ints3 hg8 (fun e => by have e2 : gV_ = g8_7 := Option.some.inj e; omega)
          replace hU := hU.off BA10 no_ints3 hg8 (fun e => by have e2 : gU_ = g8_7 := Option.some.inj e; omega)
          replace q5 := off q5 BA10 no_ints3 hg8
          replace d5 := off d5 BA10 no_ints3 hg8
          replace kas := off kas BA10 no_ints3 hg8
          replace kad := off kad BA10 no_ints3 hg8
          replace kaz : IsZ w8 (.agg #[.bool (ngB (LO).num), .slice Aa (digs 4294967296 (LO).num.natAbs).length ca]) ((LO).num) := ⟨_, rfl, kas⟩
          replace ka : IsQ w8 (.agg #[.bool (ngB (LO).num), .slice Aa (digs 4294967296 (LO).num.natAbs).length ca, .slice Da (digs 4294967296 (LO).den).length ea]) (LO) := ⟨_, _, rfl, kas, kad⟩
          replace Ba := Ba.grown hg8 (by omega)
          replace kbs := off kbs BA10 no_ints3 hg8
          replace kbd := off kbd BA10 no_ints3 hg8
          replace kbz : IsZ w8 (.agg #[.bool (ngB (HI).num), .slice Ab (digs 4294967296 (HI).num.natAbs).length cb]) ((HI).num) := ⟨_, rfl, kbs⟩
          replace kb : IsQ w8 (.agg #[.bool (ngB (HI).num), .slice Ab (digs 4294967296 (HI).num.natAbs).length cb, .slice Db (digs 4294967296 (HI).den).length eb]) (HI) := ⟨_, _, rfl, kbs, kbd⟩
          replace Bb := Bb.grown hg8 (by omega)
          replace klos := off klos BA10 no_ints3 hg8
          replace klod := off klod BA10 no_ints3 hg8
          replace kloz : IsR w8 (.agg #[.bool (ngB (q0).num), .slice Alo (digs 10000 (q0).num.natAbs).length clo]) ((q0).num) := ⟨_, rfl, klos⟩
          replace klo : IsP w8 (.agg #[.bool (ngB (q0).num), .slice Alo (digs 10000 (q0).num.natAbs).length clo, .slice Dlo (digs 10000 (q0).den).length elo]) (q0) := ⟨_, _, rfl, klos, klod⟩
          replace Blo := Blo.grown hg8 (by omega)
          replace hbH := hbH.trans ((Below.refl _ _).grown hg8 hbH.size (fun g hg => by injection hg with hg; omega))
          replace bb := bb.trans ((Below.refl _ _).grown hg8 bb.size (fun g hg => by injection hg with hg; omega))
          have hsz8 := bb.size
          have Bhi : Blk w8 (g8_7) _ _ := BN8
          have khis := q5
          have khid := d5
          have khiz : IsR w8 (.agg #[.bool (ngB (q0).num), .slice Ahi (digs 10000 (q0).num.natAbs).length chi]) ((q0).num) := ⟨_, rfl, khis⟩
          have khi : IsP w8 (.agg #[.bool (ngB (q0).num), .slice Ahi (digs 10000 (q0).num.natAbs).length chi, .slice Dhi (digs 10000 (q0).den).length ehi]) (q0) := ⟨_, _, rfl, khis, khid⟩
          refine anyh_done (by kernel_rfl) ?_
          go_wp2
          go_loopw [11] (fun v11 wr => ∃ k : Nat, k ≤ qs.length ∧ HoldP wr g8_6 (lowq q0 (qs.take k)) ∧ HoldP wr g8_7 (higq q0 (qs.take k)) ∧ HoldQ wr g6_5 LO ∧ HoldQ wr g7_5 HI ∧ SlF .i64 10000 wr (.slice (some ⟨gU_, oU_, none⟩) qs.length cU_) qs ∧ Below w.heap.size w wr ∧ v11 = .int .i64 (k : Int)) (fun v11 _ => qs.length - (RowKit.intOf v11).toNat)
          case atStart => exact ⟨0, by omega, ⟨_, _, Blo, klos, klod⟩, ⟨_, _, Bhi, khis, khid⟩, ⟨_, _, Ba, kas, kad⟩, ⟨_, _, Bb, kbs, kbd⟩, hU, bb, rfl⟩
          case round =>
            obtain ⟨k, hk, hH1, hH2, hH3, hH4, hU_, hbw, rfl⟩ := hrel
            clear Blo klos klod kloz klo Bhi khis khid khiz khi Ba kas kad kaz ka Bb kbs kbd kbz kb hU hV bb
            have hU := hU_
            have bb := hbw
            clear hU_ hbw
            have hszr := bb.size
            obtain ⟨m, hm⟩ : ∃ m, m = lowq q0 (qs.take k) := ⟨_, rfl⟩
            obtain ⟨M, hM⟩ : ∃ M, M = higq q0 (qs.take k) := ⟨_, rfl⟩
            have lm : lenQ m 2 := by rw [hm]; exact lenQ_lowq lq0 fun x hx => hq2 x (List.mem_of_mem_take hx)
            have lM : lenQ M 2 := by rw [hM]; exact lenQ_higq lq0 fun x hx => hq2 x (List.mem_of_mem_take hx)
            rw [← hm] at hH1
            rw [← hM] at hH2
            have Hm := Lib.hid hm
            have HM := Lib.hid hM
            clear hm hM
            obtain ⟨ulo, tlo, Blo, klos, klod⟩ := hH1
            obtain ⟨Alo, clo, rfl, _⟩ := id klos
            obtain ⟨Dlo, elo, rfl, _⟩ := id klod
            have kloz : IsR wr (.agg #[.bool (ngB (m).num), .slice Alo (digs 10000 (m).num.natAbs).length clo]) ((m).num) := ⟨_, rfl, klos⟩
            have klo : IsP wr (.agg #[.bool (ngB (m).num), .slice Alo (digs 10000 (m).num.natAbs).length clo, .slice Dlo (digs 10000 (m).den).length elo]) (m) := ⟨_, _, rfl, klos, klod⟩
            obtain ⟨uhi, thi, Bhi, khis, khid⟩ := hH2
            obtain ⟨Ahi, chi, rfl, _⟩ := id khis
            obtain ⟨Dhi, ehi, rfl, _⟩ := id khid
            have khiz : IsR wr (.agg #[.bool (ngB (M).num), .slice Ahi (digs 10000 (M).num.natAbs).length chi]) ((M).num) := ⟨_, rfl, khis⟩
            have khi : IsP wr (.agg #[.bool (ngB (M).num), .slice Ahi (digs 10000 (M).num.natAbs).length chi, .slice Dhi (digs 10000 (M).den).length ehi]) (M) := ⟨_, _, rfl, khis, khid⟩
            obtain ⟨ua, ta, Ba, kas, kad⟩ := hH3
            obtain ⟨Aa, ca, rfl, _⟩ := id kas
            obtain ⟨Da, ea, rfl, _⟩ := id kad
            have kaz : IsZ wr (.agg #[.bool (ngB (LO).num), .slice Aa (digs 4294967296 (LO).num.natAbs).length ca]) ((LO).num) := ⟨_, rfl, kas⟩
            have ka : IsQ wr (.agg #[.bool (ngB (LO).num), .slice Aa (digs 4294967296 (LO).num.natAbs).length ca, .slice Da (digs 4294967296 (LO).den).length ea]) (LO) := ⟨_, _, rfl, kas, kad⟩
            obtain ⟨ub, tb, Bb, kbs, kbd⟩ := hH4
            obtain ⟨Ab, cb, rfl, _⟩ := id kbs
            obtain ⟨Db, eb, rfl, _⟩ := id kbd
            have kbz : IsZ wr (.agg #[.bool (ngB (HI).num), .slice Ab (digs 4294967296 (HI).num.natAbs).length cb]) ((HI).num) := ⟨_, rfl, kbs⟩
            have kb : IsQ wr (.agg #[.bool (ngB (HI).num), .slice Ab (digs 4294967296 (HI).num.natAbs).length cb, .slice Db (digs 4294967296 (HI).den).length eb]) (HI) := ⟨_, _, rfl, kbs, kbd⟩
            by_cases hlt : k < qs.length
            · obtain ⟨x, hx⟩ : ∃ x, qs[k]? = some x := ⟨_, List.getElem?_eq_getElem hlt⟩
              have lx : lenQ x 2 := hq2 _ (List.mem_of_getElem? hx)
              have HX := Lib.hid hx
              clear hx
              by_cases c1 : x < m
              · by_cases c2 : M < x
                · have HN1 : Hid (x = lowq q0 (qs.take (k + 1))) := by show _ = _; rw [lowq_take HX.out, ← Hm.out, minq_pos c1]
                  have HN2 : Hid (x = higq q0 (qs.take (k + 1))) := by show _ = _; rw [higq_take HX.out, ← HM.out, maxq_pos c2]
                  have o1 : ordq x m < 0 := ordq_neg.2 c1
                  have o2 : 0 < ordq x M := ordq_pos.2 c2
                  clear c1 c2
                  obtain ⟨ue1, te1, hlte1, ze10, ze11, ze12, ze1s, ze1d⟩ := hU.at2 HX.out
                  obtain ⟨Ae1, ce1, rfl, _⟩ := id ze1s
                  obtain ⟨De1, ee1, rfl, _⟩ := id ze1d
                  have ze1 : IsP wr (.agg #[.bool (ngB (x).num), .slice Ae1 (digs 10000 (x).num.natAbs).length ce1, .slice De1 (digs 10000 (x).den).length ee1]) (x) := ⟨_, _, rfl, ze1s, ze1d⟩
                  go_upto_region 10 with (fail)
                  refine flow 7 [Pd.eq (.slice (some ⟨gU_, oU_, none⟩) qs.length cU_), Pd.eq (.int .i64 (k : Int)), Pd.eq (.pointer (some ⟨gU_, oU_ + k * 3, none⟩)), Pd.eq (.agg #[.bool (ngB (x).num), .slice Ae1 (digs 10000 (x).num.natAbs).length ce1, .slice De1 (digs 10000 (x).den).length ee1]), Pd.eq (.agg #[.bool (ngB (m).num), .slice Alo (digs 10000 (m).num.natAbs).length clo, .slice Dlo (digs 10000 (m).den).length elo]), Pd.eq (.int .i64 (ordq (x) (m))), Pd.eq (.bool (decide ((ordq (x) (m)) < 0)))] (by kernel_rfl) (by kernel_rfl) ?ob9 ?done9
                  case ob9 =>
                    refine And.intro (ob_move rfl (wt_none rfl) (ev_far rfl rfl) (fun _ _ h => h)) ?_
                    refine And.intro (ob_move rfl (wt_none rfl) (ev_far rfl rfl) (fun _ _ h => h)) ?_
                    refine And.intro (ob_indexAddr rfl (wt_none rfl) (ev_dep (j := 0) (by kernel_rfl) rfl rfl) (ev_dep (j := 1) (by kernel_rfl) rfl rfl) (fun _ _ _ hx hy => ⟨_, by rw [hx, hy]; exact index3 (k := k) Tryz.underlying29 (by kernel_rfl) hlte1 _, rfl⟩)) ?_
                    refine And.intro (ob_load rfl (wt_none rfl) (ev_dep (j := 2) (by kernel_rfl) rfl rfl) (fun w2 hb => load3 Tryz.underlying41 rfl (by kernel_rfl) ((hb.cell (World.block_lt_of_cell? wr _ ze10)).trans ze10) ((hb.cell (World.block_lt_of_cell? wr _ ze11)).trans ze11) ((hb.cell (World.block_lt_of_cell? wr _ ze12)).trans ze12)) (fun _ _ => rfl)) ?_
                    refine And.intro (ob_load rfl (wt_none rfl) (ev_far rfl rfl) (fun w2 hb => run_loadAll Tryz.underlying41 rfl (by kernel_rfl) (Blo.drew.below hb)) (fun _ _ => rfl)) ?_
                    refine And.intro (ob_call2 rfl Tryz.func26 (by kernel_rfl) (wt_none rfl) (ev_dep (j := 3) (by kernel_rfl) rfl rfl) (ev_dep (j := 4) (by kernel_rfl) rfl rfl) (fun w2 u0 u1 hb h0 h1 => by obtain rfl := h0; obtain rfl := h1; exact (qcmp_any _ (x) _ (m) _ _ (ze1.drew.below hb) (klo.drew.below hb) (lx.mono (by decide)) (lm.mono (by decide)) rfl).mono fun e w3 h => RetV.pd h)) ?_
                    refine And.intro (ob_bin rfl (wt_none rfl) (ev_dep (j := 5) (by kernel_rfl) rfl rfl) (ev_const _) (fun _ _ _ hx hy => ⟨.bool (decide ((ordq (x) (m)) < 0)), by rw [hx, hy]; exact bin_lss_int _ _ _ _ _, rfl⟩)) ?_
                    trivial
                  case done9 =>
                    refine fun w9 hb9 v0 h0 v1 h1 v2 h2 v3 h3 v4 h4 v5 h5 v6 h6 b hbf => ?_
                    obtain rfl := h0; obtain rfl := h1; obtain rfl := h2; obtain rfl := h3; obtain rfl := h4; obtain rfl := h5; obtain rfl := h6
                    simp only [Act.put, List.setIfInBounds_toArray, List.set_cons_zero, List.set_cons_succ] at hbf
                    subst hbf
                    replace Ba := Ba.below hb9
                    replace kas := kas.below hb9
                    replace kad := kad.below hb9
                    replace kaz := kaz.below hb9
                    replace ka := ka.below hb9
                    replace Bb := Bb.below hb9
                    replace kbs := kbs.below hb9
                    replace kbd := kbd.below hb9
                    replace kbz := kbz.below hb9
                    replace kb := kb.below hb9
                    replace Blo := Blo.below hb9
                    replace klos := klos.below hb9
                    replace klod := klod.below hb9
                    replace kloz := kloz.below hb9
                    replace klo := klo.below hb9
                    replace Bhi := Bhi.below hb9
                    replace khis := khis.below hb9
                    replace khid := khid.below hb9
                    replace khiz := khiz.below hb9
                    replace khi := khi.below hb9
                    replace hU := hU.below hb9
                    replace bb := bb.trans (hb9.mono bb.size)
                    have hsz9 := bb.size
                    refine any_done (by kernel_rfl) ?_
                    obtain ⟨ul2, tl2, hltl2, zl20, zl21, zl22, zl2s, zl2d⟩ := hU.at2 HX.out
                    obtain ⟨Al2, cl2, rfl, _⟩ := id zl2s
                    obtain ⟨Dl2, el2, rfl, _⟩ := id zl2d
                    have zl2 : IsP w9 (.agg #[.bool (ngB (x).num), .slice Al2 (digs 10000 (x).num.natAbs).length cl2, .slice Dl2 (digs 10000 (x).den).length el2]) (x) := ⟨_, _, rfl, zl2s, zl2d⟩
                    go_upto_region 11 with (fail)
                    refine flowp 4 [Pd.eq (.slice (some ⟨gU_, oU_, none⟩) qs.length cU_), Pd.eq (.int .i64 (k : Int)), Pd.eq (.pointer (some ⟨gU_, oU_ + k * 3, none⟩)), Pd.eq (.agg #[.bool (ngB (x).num), .slice Al2 (digs 10000 (x).num.natAbs).length cl2, .slice Dl2 (digs 10000 (x).den).length el2])] (by kernel_rfl) ?ob10 ?done10
                    case ob10 =>
                      refine And.intro (ob_move rfl (wt_none rfl) (ev_far rfl rfl) (fun _ _ h => h)) ?_
                      refine And.intro (ob_move rfl (wt_none rfl) (ev_far rfl rfl) (fun _ _ h => h)) ?_
                      refine And.intro (ob_indexAddr rfl (wt_none rfl) (ev_dep (j := 0) (by kernel_rfl) rfl rfl) (ev_dep (j := 1) (by kernel_rfl) rfl rfl) (fun _ _ _ hx hy => ⟨_, by rw [hx, hy]; exact index3 (k := k) Tryz.underlying29 (by kernel_rfl) hltl2 _, rfl⟩)) ?_
                      refine And.intro (ob_load rfl (wt_none rfl) (ev_dep (j := 2) (by kernel_rfl) rfl rfl) (fun w2 hb => load3 Tryz.underlying41 rfl (by kernel_rfl) ((hb.cell (World.block_lt_of_cell? w9 _ zl20)).trans zl20) ((hb.cell (World.block_lt_of_cell? w9 _ zl21)).trans zl21) ((hb.cell (World.block_lt_of_cell? w9 _ zl22)).trans zl22)) (fun _ _ => rfl)) ?_
                      trivial
                    case done10 =>
                      refine fun w10 hb10 v0 h0 v1 h1 v2 h2 v3 h3 b hbf => ?_
                      obtain rfl := h0; obtain rfl := h1; obtain rfl := h2; obtain rfl := h3
                      simp only [Act.put, List.setIfInBounds_toArray, List.set_cons_zero, List.set_cons_succ] at hbf
                      subst hbf
                      replace Ba := Ba.below hb10
                      replace kas := kas.below hb10
                      replace kad := kad.below hb10
                      replace kaz := kaz.below hb10
                      replace ka := ka.below hb10
                      replace Bb := Bb.below hb10
                      replace kbs := kbs.below hb10
                      replace kbd := kbd.below hb10
                      replace kbz := kbz.below hb10
                      replace kb := kb.below hb10
                      replace Blo := Blo.below hb10
                      replace klos := klos.below hb10
                      replace klod := klod.below hb10
                      replace kloz := kloz.below hb10
                      replace klo := klo.below hb10
                      replace Bhi := Bhi.below hb10
                      replace khis := khis.below hb10
                      replace khid := khid.below hb10
                      replace khiz := khiz.below hb10
                      replace khi := khi.below hb10
                      replace hU := hU.below hb10
                      replace zl2s := zl2s.below hb10
                      replace zl2d := zl2d.below hb10
                      replace bb := bb.trans (hb10.mono bb.size)
                      have hsz10 := bb.size
                      have q3 := zl2s
                      have d3 := zl2d
                      refine ops_store (i := 4) rfl rfl rfl rfl rfl rfl (cells := [.bool (ngB (x).num), .slice Al2 (digs 10000 (x).num.natAbs).length cl2, .slice Dl2 (digs 10000 (x).den).length el2]) rfl Blo rfl (by kernel_rfl) (one3 rfl rfl rfl) fun w11 hg11 BN11 => ?_
                      replace hU := hU.off Blo no_ints3 hg11 (fun e => by have e2 : gU_ = g8_6 := Option.some.inj e; omega)
                      replace q3 := off q3 Blo no_ints3 hg11
                      replace d3 := off d3 Blo no_ints3 hg11
                      replace kas := off kas Blo no_ints3 hg11
                      replace kad := off kad Blo no_ints3 hg11
                      replace kaz : IsZ w11 (.agg #[.bool (ngB (LO).num), .slice Aa (digs 4294967296 (LO).num.natAbs).length ca]) ((LO).num) := ⟨_, rfl, kas⟩
                      replace ka : IsQ w11 (.agg #[.bool (ngB (LO).num), .slice Aa (digs 4294967296 (LO).num.natAbs).length ca, .slice Da (digs 4294967296 (LO).den).length ea]) (LO) := ⟨_, _, rfl, kas, kad⟩
                      replace Ba := Ba.grown hg11 (by omega)
                      replace kbs := off kbs Blo no_ints3 hg11
                      replace kbd := off kbd Blo no_ints3 hg11
                      replace kbz : IsZ w11 (.agg #[.bool (ngB (HI).num), .slice Ab (digs 4294967296 (HI).num.natAbs).length cb]) ((HI).num) := ⟨_, rfl, kbs⟩
                      replace kb : IsQ w11 (.agg #[.bool (ngB (HI).num), .slice Ab (digs 4294967296 (HI).num.natAbs).length cb, .slice Db (digs 4294967296 (HI).den).length eb]) (HI) := ⟨_, _, rfl, kbs, kbd⟩
                      replace Bb := Bb.grown hg11 (by omega)
                      replace khis := off khis Blo no_ints3 hg11
                      replace khid := off khid Blo no_ints3 hg11
                      replace khiz : IsR w11 (.agg #[.bool (ngB (M).num), .slice Ahi (digs 10000 (M).num.natAbs).length chi]) ((M).num) := ⟨_, rfl, khis⟩
                      replace khi : IsP w11 (.agg #[.bool (ngB (M).num), .slice Ahi (digs 10000 (M).num.natAbs).length chi, .slice Dhi (digs 10000 (M).den).length ehi]) (M) := ⟨_, _, rfl, khis, khid⟩
                      replace Bhi := Bhi.grown hg11 (by omega)
                      replace bb := bb.trans ((Below.refl _ _).grown hg11 bb.size (fun g hg => by injection hg with hg; omega))
                      have hsz11 := bb.size
                      have Bl2 : Blk w11 (g8_6) _ _ := BN11
                      have kl2s := q3
                      have kl2d := d3
                      have kl2z : IsR w11 (.agg #[.bool (ngB (x).num), .slice Al2 (digs 10000 (x).num.natAbs).length cl2]) ((x).num) := ⟨_, rfl, kl2s⟩
                      have kl2 : IsP w11 (.agg #[.bool (ngB (x).num), .slice Al2 (digs 10000 (x).num.natAbs).length cl2, .slice Dl2 (digs 10000 (x).den).length el2]) (x) := ⟨_, _, rfl, kl2s, kl2d⟩
                      refine ops_done ?_
                      obtain ⟨ue3, te3, hlte3, ze30, ze31, ze32, ze3s, ze3d⟩ := hU.at2 HX.out
                      obtain ⟨Ae3, ce3, rfl, _⟩ := id ze3s
                      obtain ⟨De3, ee3, rfl, _⟩ := id ze3d
                      have ze3 : IsP w11 (.agg #[.bool (ngB (x).num), .slice Ae3 (digs 10000 (x).num.natAbs).length ce3, .slice De3 (digs 10000 (x).den).length ee3]) (x) := ⟨_, _, rfl, ze3s, ze3d⟩
                      go_upto_region 12 with (fail)
                      refine flow 7 [Pd.eq (.slice (some ⟨gU_, oU_, none⟩) qs.length cU_), Pd.eq (.int .i64 (k : Int)), Pd.eq (.pointer (some ⟨gU_, oU_ + k * 3, none⟩)), Pd.eq (.agg #[.bool (ngB (x).num), .slice Ae3 (digs 10000 (x).num.natAbs).length ce3, .slice De3 (digs 10000 (x).den).length ee3]), Pd.eq (.agg #[.bool (ngB (M).num), .slice Ahi (digs 10000 (M).num.natAbs).length chi, .slice Dhi (digs 10000 (M).den).length ehi]), Pd.eq (.int .i64 (ordq (x) (M))), Pd.eq (.bool (decide (0 < (ordq (x) (M)))))] (by kernel_rfl) (by kernel_rfl) ?ob11 ?done11
                      case ob11 =>
                        refine And.intro (ob_move rfl (wt_none rfl) (ev_far rfl rfl) (fun _ _ h => h)) ?_
                        refine And.intro (ob_move rfl (wt_none rfl) (ev_far rfl rfl) (fun _ _ h => h)) ?_
                        refine And.intro (ob_indexAddr rfl (wt_none rfl) (ev_dep (j := 0) (by kernel_rfl) rfl rfl) (ev_dep (j := 1) (by kernel_rfl) rfl rfl) (fun _ _ _ hx hy => ⟨_, by rw [hx, hy]; exact index3 (k := k) Tryz.underlying29 (by kernel_rfl) hlte3 _, rfl⟩)) ?_
                        refine And.intro (ob_load rfl (wt_none rfl) (ev_dep (j := 2) (by kernel_rfl) rfl rfl) (fun w2 hb => load3 Tryz.underlying41 rfl (by kernel_rfl) ((hb.cell (World.block_lt_of_cell? w11 _ ze30)).trans ze30) ((hb.cell (World.block_lt_of_cell? w11 _ ze31)).trans ze31) ((hb.cell (World.block_lt_of_cell? w11 _ ze32)).trans ze32)) (fun _ _ => rfl)) ?_
                        refine And.intro (ob_load rfl (wt_none rfl) (ev_far rfl rfl) (fun w2 hb => run_loadAll Tryz.underlying41 rfl (by kernel_rfl) (Bhi.drew.below hb)) (fun _ _ => rfl)) ?_
                        refine And.intro (ob_call2 rfl Tryz.func26 (by kernel_rfl) (wt_none rfl) (ev_dep (j := 3) (by kernel_rfl) rfl rfl) (ev_dep (j := 4) (by kernel_rfl) rfl rfl) (fun w2 u0 u1 hb h0 h1 => by obtain rfl := h0; obtain rfl := h1; exact (qcmp_any _ (x) _ (M) _ _ (ze3.drew.below hb) (khi.drew.below hb) (lx.mono (by decide)) (lM.mono (by decide)) rfl).mono fun e w3 h => RetV.pd h)) ?_
                        refine And.intro (ob_bin rfl (wt_none rfl) (ev_dep (j := 5) (by kernel_rfl) rfl rfl) (ev_const _) (fun _ _ _ hx hy => ⟨.bool (decide (0 < (ordq (x) (M)))), by rw [hx, hy]; exact bin_gtr_int _ _ _ _ _, rfl⟩)) ?_
                        trivial
                      case done11 =>
                        refine fun w12 hb12 v0 h0 v1 h1 v2 h2 v3 h3 v4 h4 v5 h5 v6 h6 b hbf => ?_
                        obtain rfl := h0; obtain rfl := h1; obtain rfl := h2; obtain rfl := h3; obtain rfl := h4; obtain rfl := h5; obtain rfl := h6
                        simp only [Act.put, List.setIfInBounds_toArray, List.set_cons_zero, List.set_cons_succ] at hbf
                        subst hbf
                        replace Ba := Ba.below hb12
                        replace kas := kas.below hb12
                        replace kad := kad.below hb12
                        replace kaz := kaz.below hb12
                        replace ka := ka.below hb12
                        replace Bb := Bb.below hb12
                        replace kbs := kbs.below hb12
                        replace kbd := kbd.below hb12
                        replace kbz := kbz.below hb12
                        replace kb := kb.below hb12
                        replace Bl2 := Bl2.below hb12
                        replace kl2s := kl2s.below hb12
                        replace kl2d := kl2d.below hb12
                        replace kl2z := kl2z.below hb12
                        replace kl2 := kl2.below hb12
                        replace Bhi := Bhi.below hb12
                        replace khis := khis.below hb12
                        replace khid := khid.below hb12
                        replace khiz := khiz.below hb12
                        replace khi := khi.below hb12
                        replace hU := hU.below hb12
                        replace bb := bb.trans (hb12.mono bb.size)
                        have hsz12 := bb.size
                        refine any_done (by kernel_rfl) ?_
                        obtain ⟨uh2, th2, hlth2, zh20, zh21, zh22, zh2s, zh2d⟩ := hU.at2 HX.out
                        obtain ⟨Ah2, ch2, rfl, _⟩ := id zh2s
                        obtain ⟨Dh2, eh2, rfl, _⟩ := id zh2d
                        have zh2 : IsP w12 (.agg #[.bool (ngB (x).num), .slice Ah2 (digs 10000 (x).num.natAbs).length ch2, .slice Dh2 (digs 10000 (x).den).length eh2]) (x) := ⟨_, _, rfl, zh2s, zh2d⟩
                        go_upto_region 13 with (fail)
                        refine flowp 4 [Pd.eq (.slice (some ⟨gU_, oU_, none⟩) qs.length cU_), Pd.eq (.int .i64 (k : Int)), Pd.eq (.pointer (some ⟨gU_, oU_ + k * 3, none⟩)), Pd.eq (.agg #[.bool (ngB (x).num), .slice Ah2 (digs 10000 (x).num.natAbs).length ch2, .slice Dh2 (digs 10000 (x).den).length eh2])] (by kernel_rfl) ?ob12 ?done12
                        case ob12 =>
                          refine And.intro (ob_move rfl (wt_none rfl) (ev_far rfl rfl) (fun _ _ h => h)) ?_
                          refine And.intro (ob_move rfl (wt_none rfl) (ev_far rfl rfl) (fun _ _ h => h)) ?_
                          refine And.intro (ob_indexAddr rfl (wt_none rfl) (ev_dep (j := 0) (by kernel_rfl) rfl rfl) (ev_dep (j := 1) (by kernel_rfl) rfl rfl) (fun _ _ _ hx hy => ⟨_, by rw [hx, hy]; exact index3 (k := k) Tryz.underlying29 (by kernel_rfl) hlth2 _, rfl⟩)) ?_
                          refine And.intro (ob_load rfl (wt_none rfl) (ev_dep (j := 2) (by kernel_rfl) rfl rfl) (fun w2 hb => load3 Tryz.underlying41 rfl (by kernel_rfl) ((hb.cell (World.block_lt_of_cell? w12 _ zh20)).trans zh20) ((hb.cell (World.block_lt_of_cell? w12 _ zh21)).trans zh21) ((hb.cell (World.block_lt_of_cell? w12 _ zh22)).trans zh22)) (fun _ _ => rfl)) ?_
                          trivial
                        case done12 =>
                          refine fun w13 hb13 v0 h0 v1 h1 v2 h2 v3 h3 b hbf => ?_
                          obtain rfl := h0; obtain rfl := h1; obtain rfl := h2; obtain rfl := h3
                          simp only [Act.put, List.setIfInBounds_toArray, List.set_cons_zero, List.set_cons_succ] at hbf
                          subst hbf
                          replace Ba := Ba.below hb13
                          replace kas := kas.below hb13
                          replace kad := kad.below hb13
                          replace kaz := kaz.below hb13
                          replace ka := ka.below hb13
                          replace Bb := Bb.below hb13
                          replace kbs := kbs.below hb13
                          replace kbd := kbd.below hb13
                          replace kbz := kbz.below hb13
                          replace kb := kb.below hb13
                          replace Bl2 := Bl2.below hb13
                          replace kl2s := kl2s.below hb13
                          replace kl2d := kl2d.below hb13
                          replace kl2z := kl2z.below hb13
                          replace kl2 := kl2.below hb13
                          replace Bhi := Bhi.below hb13
                          replace khis := khis.below hb13
                          replace khid := khid.below hb13
                          replace khiz := khiz.below hb13
                          replace khi := khi.below hb13
                          replace hU := hU.below hb13
                          replace zh2s := zh2s.below hb13
                          replace zh2d := zh2d.below hb13
                          replace bb := bb.trans (hb13.mono bb.size)
                          have hsz13 := bb.size
                          have q3 := zh2s
                          have d3 := zh2d
                          refine ops_store (i := 4) rfl rfl rfl rfl rfl rfl (cells := [.bool (ngB (x).num), .slice Ah2 (digs 10000 (x).num.natAbs).length ch2, .slice Dh2 (digs 10000 (x).den).length eh2]) rfl Bhi rfl (by kernel_rfl) (one3 rfl rfl rfl) fun w14 hg14 BN14 => ?_
                          replace hU := hU.off Bhi no_ints3 hg14 (fun e => by have e2 : gU_ = g8_7 := Option.some.inj e; omega)
                          replace q3 := off q3 Bhi no_ints3 hg14
                          replace d3 := off d3 Bhi no_ints3 hg14
                          replace kas := off kas Bhi no_ints3 hg14
                          replace kad := off kad Bhi no_ints3 hg14
                          replace kaz : IsZ w14 (.agg #[.bool (ngB (LO).num), .slice Aa (digs 4294967296 (LO).num.natAbs).length ca]) ((LO).num) := ⟨_, rfl, kas⟩
                          replace ka : IsQ w14 (.agg #[.bool (ngB (LO).num), .slice Aa (digs 4294967296 (LO).num.natAbs).length ca, .slice Da (digs 4294967296 (LO).den).length ea]) (LO) := ⟨_, _, rfl, kas, kad⟩
                          replace Ba := Ba.grown hg14 (by omega)
                          replace kbs := off kbs Bhi no_ints3 hg14
                          replace kbd := off kbd Bhi no_ints3 hg14
                          replace kbz : IsZ w14 (.agg #[.bool (ngB (HI).num), .slice Ab (digs 4294967296 (HI).num.natAbs).length cb]) ((HI).num) := ⟨_, rfl, kbs⟩
                          replace kb : IsQ w14 (.agg #[.bool (ngB (HI).num), .slice Ab (digs 4294967296 (HI).num.natAbs).length cb, .slice Db (digs 4294967296 (HI).den).length eb]) (HI) := ⟨_, _, rfl, kbs, kbd⟩
                          replace Bb := Bb.grown hg14 (by omega)
                          replace kl2s := off kl2s Bhi no_ints3 hg14
                          replace kl2d := off kl2d Bhi no_ints3 hg14
                          replace kl2z : IsR w14 (.agg #[.bool (ngB (x).num), .slice Al2 (digs 10000 (x).num.natAbs).length cl2]) ((x).num) := ⟨_, rfl, kl2s⟩
                          replace kl2 : IsP w14 (.agg #[.bool (ngB (x).num), .slice Al2 (digs 10000 (x).num.natAbs).length cl2, .slice Dl2 (digs 10000 (x).den).length el2]) (x) := ⟨_, _, rfl, kl2s, kl2d⟩
                          replace Bl2 := Bl2.grown hg14 (by omega)
                          replace bb := bb.trans ((Below.refl _ _).grown hg14 bb.size (fun g hg => by injection hg with hg; omega))
                          have hsz14 := bb.size
                          have Bh2 : Blk w14 (g8_7) _ _ := BN14
                          have kh2s := q3
                          have kh2d := d3
                          have kh2z : IsR w14 (.agg #[.bool (ngB (x).num), .slice Ah2 (digs 10000 (x).num.natAbs).length ch2]) ((x).num) := ⟨_, rfl, kh2s⟩
                          have kh2 : IsP w14 (.agg #[.bool (ngB (x).num), .slice Ah2 (digs 10000 (x).num.natAbs).length ch2, .slice Dh2 (digs 10000 (x).den).length eh2]) (x) := ⟨_, _, rfl, kh2s, kh2d⟩
                          refine ops_done ?_
                          have hsk : qs.length - (k + 1) < qs.length - k := by omega
                          go_wp2
                          go_roundw
                          case rel => exact ⟨k + 1, by omega, (by rw [← HN1.out]; exact ⟨_, _, Bl2, kl2s, kl2d⟩), (by rw [← HN2.out]; exact ⟨_, _, Bh2, kh2s, kh2d⟩), ⟨_, _, Ba, kas, kad⟩, ⟨_, _, Bb, kbs, kbd⟩, hU, bb, by go_num⟩
                          case measure => simp [RowKit.intOf]; omega
                · have HN1 : Hid (x = lowq q0 (qs.take (k + 1))) := by show _ = _; rw [lowq_take HX.out, ← Hm.out, minq_pos c1]
                  have HN2 : Hid (M = higq q0 (qs.take (k + 1))) := by show _ = _; rw [higq_take HX.out, ← HM.out, maxq_neg c2]
                  have o1 : ordq x m < 0 := ordq_neg.2 c1
                  have o2 : ¬ 0 < ordq x M := fun h => c2 (ordq_pos.1 h)
                  clear c1 c2
                  obtain ⟨ue1, te1, hlte1, ze10, ze11, ze12, ze1s, ze1d⟩ := hU.at2 HX.out
                  obtain ⟨Ae1, ce1, rfl, _⟩ := id ze1s
                  obtain ⟨De1, ee1, rfl, _⟩ := id ze1d
                  have ze1 : IsP wr (.agg #[.bool (ngB (x).num), .slice Ae1 (digs 10000 (x).num.natAbs).length ce1, .slice De1 (digs 10000 (x).den).length ee1]) (x) := ⟨_, _, rfl, ze1s, ze1d⟩
                  go_upto_region 10 with (fail)
                  refine flow 7 [Pd.eq (.slice (some ⟨gU_, oU_, none⟩) qs.length cU_), Pd.eq (.int .i64 (k : Int)), Pd.eq (.pointer (some ⟨gU_, oU_ + k * 3, none⟩)), Pd.eq (.agg #[.bool (ngB (x).num), .slice Ae1 (digs 10000 (x).num.natAbs).length ce1, .slice De1 (digs 10000 (x).den).length ee1]), Pd.eq (.agg #[.bool (ngB (m).num), .slice Alo (digs 10000 (m).num.natAbs).length clo, .slice Dlo (digs 10000 (m).den).length elo]), Pd.eq (.int .i64 (ordq (x) (m))), Pd.eq (.bool (decide ((ordq (x) (m)) < 0)))] (by kernel_rfl) (by kernel_rfl) ?ob13 ?done13
                  case ob13 =>
                    refine And.intro (ob_move rfl (wt_none rfl) (ev_far rfl rfl) (fun _ _ h => h)) ?_
                    refine And.intro (ob_move rfl (wt_none rfl) (ev_far rfl rfl) (fun _ _ h => h)) ?_
                    refine And.intro (ob_indexAddr rfl (wt_none rfl) (ev_dep (j := 0) (by kernel_rfl) rfl rfl) (ev_dep (j := 1) (by kernel_rfl) rfl rfl) (fun _ _ _ hx hy => ⟨_, by rw [hx, hy]; exact index3 (k := k) Tryz.underlying29 (by kernel_rfl) hlte1 _, rfl⟩)) ?_
                    refine And.intro (ob_load rfl (wt_none rfl) (ev_dep (j := 2) (by kernel_rfl) rfl rfl) (fun w2 hb => load3 Tryz.underlying41 rfl (by kernel_rfl) ((hb.cell (World.block_lt_of_cell? wr _ ze10)).trans ze10) ((hb.cell (World.block_lt_of_cell? wr _ ze11)).trans ze11) ((hb.cell (World.block_lt_of_cell? wr _ ze12)).trans ze12)) (fun _ _ => rfl)) ?_
                    refine And.intro (ob_load rfl (wt_none rfl) (ev_far rfl rfl) (fun w2 hb => run_loadAll Tryz.underlying41 rfl (by kernel_rfl) (Blo.drew.below hb)) (fun _ _ => rfl)) ?_
                    refine And.intro (ob_call2 rfl Tryz.func26 (by kernel_rfl) (wt_none rfl) (ev_dep (j := 3) (by kernel_rfl) rfl rfl) (ev_dep (j := 4) (by kernel_rfl) rfl rfl) (fun w2 u0 u1 hb h0 h1 => by obtain rfl := h0; obtain rfl := h1; exact (qcmp_any _ (x) _ (m) _ _ (ze1.drew.below hb) (klo.drew.below hb) (lx.mono (by decide)) (lm.mono (by decide)) rfl).mono fun e w3 h => RetV.pd h)) ?_
                    refine And.intro (ob_bin rfl (wt_none rfl) (ev_dep (j := 5) (by kernel_rfl) rfl rfl) (ev_const _) (fun _ _ _ hx hy => ⟨.bool (decide ((ordq (x) (m)) < 0)), by rw [hx, hy]; exact bin_lss_int _ _ _ _ _, rfl⟩)) ?_
                    trivial
                  case done13 =>
                    refine fun w9 hb9 v0 h0 v1 h1 v2 h2 v3 h3 v4 h4 v5 h5 v6 h6 b hbf => ?_
                    obtain rfl := h0; obtain rfl := h1; obtain rfl := h2; obtain rfl := h3; obtain rfl := h4; obtain rfl := h5; obtain rfl := h6
                    simp only [Act.put, List.setIfInBounds_toArray, List.set_cons_zero, List.set_cons_succ] at hbf
                    subst hbf
                    replace Ba := Ba.below hb9
                    replace kas := kas.below hb9
                    replace kad := kad.below hb9
                    replace kaz := kaz.below hb9
                    replace ka := ka.below hb9
                    replace Bb := Bb.below hb9
                    replace kbs := kbs.below hb9
                    replace kbd := kbd.below hb9
                    replace kbz := kbz.below hb9
                    replace kb := kb.below hb9
                    replace Blo := Blo.below hb9
                    replace klos := klos.below hb9
                    replace klod := klod.below hb9
                    replace kloz := kloz.below hb9
                    replace klo := klo.below hb9
                    replace Bhi := Bhi.below hb9
                    replace khis := khis.below hb9
                    replace khid := khid.below hb9
                    replace khiz := khiz.below hb9
                    replace khi := khi.below hb9
                    replace hU := hU.below hb9
                    replace bb := bb.trans (hb9.mono bb.size)
                    have hsz9 := bb.size
                    refine any_done (by kernel_rfl) ?_
                    obtain ⟨ul2, tl2, hltl2, zl20, zl21, zl22, zl2s, zl2d⟩ := hU.at2 HX.out
                    obtain ⟨Al2, cl2, rfl, _⟩ := id zl2s
                    obtain ⟨Dl2, el2, rfl, _⟩ := id zl2d
                    have zl2 : IsP w9 (.agg #[.bool (ngB (x).num), .slice Al2 (digs 10000 (x).num.natAbs).length cl2, .slice Dl2 (digs 10000 (x).den).length el2]) (x) := ⟨_, _, rfl, zl2s, zl2d⟩
                    go_upto_region 11 with (fail)
                    refine flowp 4 [Pd.eq (.slice (some ⟨gU_, oU_, none⟩) qs.length cU_), Pd.eq (.int .i64 (k : Int)), Pd.eq (.pointer (some ⟨gU_, oU_ + k * 3, none⟩)), Pd.eq (.agg #[.bool (ngB (x).num), .slice Al2 (digs 10000 (x).num.natAbs).length cl2, .slice Dl2 (digs 10000 (x).den).length el2])] (by kernel_rfl) ?ob14 ?done14
                    case ob14 =>
                      refine And.intro (ob_move rfl (wt_none rfl) (ev_far rfl rfl) (fun _ _ h => h)) ?_
                      refine And.intro (ob_move rfl (wt_none rfl) (ev_far rfl rfl) (fun _ _ h => h)) ?_
                      refine And.intro (ob_indexAddr rfl (wt_none rfl) (ev_dep (j := 0) (by kernel_rfl) rfl rfl) (ev_dep (j := 1) (by kernel_rfl) rfl rfl) (fun _ _ _ hx hy => ⟨_, by rw [hx, hy]; exact index3 (k := k) Tryz.underlying29 (by kernel_rfl) hltl2 _, rfl⟩)) ?_
                      refine And.intro (ob_load rfl (wt_none rfl) (ev_dep (j := 2) (by kernel_rfl) rfl rfl) (fun w2 hb => load3 Tryz.underlying41 rfl (by kernel_rfl) ((hb.cell (World.block_lt_of_cell? w9 _ zl20)).trans zl20) ((hb.cell (World.block_lt_of_cell? w9 _ zl21)).trans zl21) ((hb.cell (World.block_lt_of_cell? w9 _ zl22)).trans zl22)) (fun _ _ => rfl)) ?_
                      trivial
                    case done14 =>
                      refine fun w10 hb10 v0 h0 v1 h1 v2 h2 v3 h3 b hbf => ?_
                      obtain rfl := h0; obtain rfl := h1; obtain rfl := h2; obtain rfl := h3
                      simp only [Act.put, List.setIfInBounds_toArray, List.set_cons_zero, List.set_cons_succ] at hbf
                      subst hbf
                      replace Ba := Ba.below hb10
                      replace kas := kas.below hb10
                      replace kad := kad.below hb10
                      replace kaz := kaz.below hb10
                      replace ka := ka.below hb10
                      replace Bb := Bb.below hb10
                      replace kbs := kbs.below hb10
                      replace kbd := kbd.below hb10
                      replace kbz := kbz.below hb10
                      replace kb := kb.below hb10
                      replace Blo := Blo.below hb10
                      replace klos := klos.below hb10
                      replace klod := klod.below hb10
                      replace kloz := kloz.below hb10
                      replace klo := klo.below hb10
                      replace Bhi := Bhi.below hb10
                      replace khis := khis.below hb10
                      replace khid := khid.below hb10
                      replace khiz := khiz.below hb10
                      replace khi := khi.below hb10
                      replace hU := hU.below hb10
                      replace zl2s := zl2s.below hb10
                      replace zl2d := zl2d.below hb10
                      replace bb := bb.trans (hb10.mono bb.size)
                      have hsz10 := bb.size
                      have q3 := zl2s
                      have d3 := zl2d
                      refine ops_store (i := 4) rfl rfl rfl rfl rfl rfl (cells := [.bool (ngB (x).num), .slice Al2 (digs 10000 (x).num.natAbs).length cl2, .slice Dl2 (digs 10000 (x).den).length el2]) rfl Blo rfl (by kernel_rfl) (one3 rfl rfl rfl) fun w11 hg11 BN11 => ?_
                      replace hU := hU.off Blo no_ints3 hg11 (fun e => by have e2 : gU_ = g8_6 := Option.some.inj e; omega)
                      replace q3 := off q3 Blo no_ints3 hg11
                      replace d3 := off d3 Blo no_ints3 hg11
                      replace kas := off kas Blo no_ints3 hg11
                      replace kad := off kad Blo no_ints3 hg11
                      replace kaz : IsZ w11 (.agg #[.bool (ngB (LO).num), .slice Aa (digs 4294967296 (LO).num.natAbs).length ca]) ((LO).num) := ⟨_, rfl, kas⟩
                      replace ka : IsQ w11 (.agg #[.bool (ngB (LO).num), .slice Aa (digs 4294967296 (LO).num.natAbs).length ca, .slice Da (digs 4294967296 (LO).den).length ea]) (LO) := ⟨_, _, rfl, kas, kad⟩
                      replace Ba := Ba.grown hg11 (by omega)
                      replace kbs := off kbs Blo no_ints3 hg11
                      replace kbd := off kbd Blo no_ints3 hg11
                      replace kbz : IsZ w11 (.agg #[.bool (ngB (HI).num), .slice Ab (digs 4294967296 (HI).num.natAbs).length cb]) ((HI).num) := ⟨_, rfl, kbs⟩
                      replace kb : IsQ w11 (.agg #[.bool (ngB (HI).num), .slice Ab (digs 4294967296 (HI).num.natAbs).length cb, .slice Db (digs 4294967296 (HI).den).length eb]) (HI) := ⟨_, _, rfl, kbs, kbd⟩
                      replace Bb := Bb.grown hg11 (by omega)
                      replace khis := off khis Blo no_ints3 hg11
                      replace khid := off khid Blo no_ints3 hg11
                      replace khiz : IsR w11 (.agg #[.bool (ngB (M).num), .slice Ahi (digs 10000 (M).num.natAbs).length chi]) ((M).num) := ⟨_, rfl, khis⟩
                      replace khi : IsP w11 (.agg #[.bool (ngB (M).num), .slice Ahi (digs 10000 (M).num.natAbs).length chi, .slice Dhi (digs 10000 (M).den).length ehi]) (M) := ⟨_, _, rfl, khis, khid⟩
                      replace Bhi := Bhi.grown hg11 (by omega)
                      replace bb := bb.trans ((Below.refl _ _).grown hg11 bb.size (fun g hg => by injection hg with hg; omega))
                      have hsz11 := bb.size
                      have Bl2 : Blk w11 (g8_6) _ _ := BN11
                      have kl2s := q3
                      have kl2d := d3
                      have kl2z : IsR w11 (.agg #[.bool (ngB (x).num), .slice Al2 (digs 10000 (x).num.natAbs).length cl2]) ((x).num) := ⟨_, rfl, kl2s⟩
                      have kl2 : IsP w11 (.agg #[.bool (ngB (x).num), .slice Al2 (digs 10000 (x).num.natAbs).length cl2, .slice Dl2 (digs 10000 (x).den).length el2]) (x) := ⟨_, _, rfl, kl2s, kl2d⟩
                      refine ops_done ?_
                      obtain ⟨ue3, te3, hlte3, ze30, ze31, ze32, ze3s, ze3d⟩ := hU.at2 HX.out
                      obtain ⟨Ae3, ce3, rfl, _⟩ := id ze3s
                      obtain ⟨De3, ee3, rfl, _⟩ := id ze3d
                      have ze3 : IsP w11 (.agg #[.bool (ngB (x).num), .slice Ae3 (digs 10000 (x).num.natAbs).length ce3, .slice De3 (digs 10000 (x).den).length ee3]) (x) := ⟨_, _, rfl, ze3s, ze3d⟩
                      go_upto_region 12 with (fail)
                      refine flow 7 [Pd.eq (.slice (some ⟨gU_, oU_, none⟩) qs.length cU_), Pd.eq (.int .i64 (k : Int)), Pd.eq (.pointer (some ⟨gU_, oU_ + k * 3, none⟩)), Pd.eq (.agg #[.bool (ngB (x).num), .slice Ae3 (digs 10000 (x).num.natAbs).length ce3, .slice De3 (digs 10000 (x).den).length ee3]), Pd.eq (.agg #[.bool (ngB (M).num), .slice Ahi (digs 10000 (M).num.natAbs).length chi, .slice Dhi (digs 10000 (M).den).length ehi]), Pd.eq (.int .i64 (ordq (x) (M))), Pd.eq (.bool (decide (0 < (ordq (x) (M)))))] (by kernel_rfl) (by kernel_rfl) ?ob15 ?done15
                      case ob15 =>
                        refine And.intro (ob_move rfl (wt_none rfl) (ev_far rfl rfl) (fun _ _ h => h)) ?_
                        refine And.intro (ob_move rfl (wt_none rfl) (ev_far rfl rfl) (fun _ _ h => h)) ?_
                        refine And.intro (ob_indexAddr rfl (wt_none rfl) (ev_dep (j := 0) (by kernel_rfl) rfl rfl) (ev_dep (j := 1) (by kernel_rfl) rfl rfl) (fun _ _ _ hx hy => ⟨_, by rw [hx, hy]; exact index3 (k := k) Tryz.underlying29 (by kernel_rfl) hlte3 _, rfl⟩)) ?_
                        refine And.intro (ob_load rfl (wt_none rfl) (ev_dep (j := 2) (by kernel_rfl) rfl rfl) (fun w2 hb => load3 Tryz.underlying41 rfl (by kernel_rfl) ((hb.cell (World.block_lt_of_cell? w11 _ ze30)).trans ze30) ((hb.cell (World.block_lt_of_cell? w11 _ ze31)).trans ze31) ((hb.cell (World.block_lt_of_cell? w11 _ ze32)).trans ze32)) (fun _ _ => rfl)) ?_
                        refine And.intro (ob_load rfl (wt_none rfl) (ev_far rfl rfl) (fun w2 hb => run_loadAll Tryz.underlying41 rfl (by kernel_rfl) (Bhi.drew.below hb)) (fun _ _ => rfl)) ?_
                        refine And.intro (ob_call2 rfl Tryz.func26 (by kernel_rfl) (wt_none rfl) (ev_dep (j := 3) (by kernel_rfl) rfl rfl) (ev_dep (j := 4) (by kernel_rfl) rfl rfl) (fun w2 u0 u1 hb h0 h1 => by obtain rfl := h0; obtain rfl := h1; exact (qcmp_any _ (x) _ (M) _ _ (ze3.drew.below hb) (khi.drew.below hb) (lx.mono (by decide)) (lM.mono (by decide)) rfl).mono fun e w3 h => RetV.pd h)) ?_
                        refine And.intro (ob_bin rfl (wt_none rfl) (ev_dep (j := 5) (by kernel_rfl) rfl rfl) (ev_const _) (fun _ _ _ hx hy => ⟨.bool (decide (0 < (ordq (x) (M)))), by rw [hx, hy]; exact bin_gtr_int _ _ _ _ _, rfl⟩)) ?_
                        trivial
                      case done15 =>
                        refine fun w12 hb12 v0 h0 v1 h1 v2 h2 v3 h3 v4 h4 v5 h5 v6 h6 b hbf => ?_
                        obtain rfl := h0; obtain rfl := h1; obtain rfl := h2; obtain rfl := h3; obtain rfl := h4; obtain rfl := h5; obtain rfl := h6
                        simp only [Act.put, List.setIfInBounds_toArray, List.set_cons_zero, List.set_cons_succ] at hbf
                        subst hbf
                        replace Ba := Ba.below hb12
                        replace kas := kas.below hb12
                        replace kad := kad.below hb12
                        replace kaz := kaz.below hb12
                        replace ka := ka.below hb12
                        replace Bb := Bb.below hb12
                        replace kbs := kbs.below hb12
                        replace kbd := kbd.below hb12
                        replace kbz := kbz.below hb12
                        replace kb := kb.below hb12
                        replace Bl2 := Bl2.below hb12
                        replace kl2s := kl2s.below hb12
                        replace kl2d := kl2d.below hb12
                        replace kl2z := kl2z.below hb12
                        replace kl2 := kl2.below hb12
                        replace Bhi := Bhi.below hb12
                        replace khis := khis.below hb12
                        replace khid := khid.below hb12
                        replace khiz := khiz.below hb12
                        replace khi := khi.below hb12
                        replace hU := hU.below hb12
                        replace bb := bb.trans (hb12.mono bb.size)
                        have hsz12 := bb.size
                        refine any_done (by kernel_rfl) ?_
                        have hsk : qs.length - (k + 1) < qs.length - k := by omega
                        go_wp2
                        go_roundw
                        case rel => exact ⟨k + 1, by omega, (by rw [← HN1.out]; exact ⟨_, _, Bl2, kl2s, kl2d⟩), (by rw [← HN2.out]; exact ⟨_, _, Bhi, khis, khid⟩), ⟨_, _, Ba, kas, kad⟩, ⟨_, _, Bb, kbs, kbd⟩, hU, bb, by go_num⟩
                        case measure => simp [RowKit.intOf]; omega
              · by_cases c2 : M < x
                · have HN1 : Hid (m = lowq q0 (qs.take (k + 1))) := by show _ = _; rw [lowq_take HX.out, ← Hm.out, minq_neg c1]
                  have HN2 : Hid (x = higq q0 (qs.take (k + 1))) := by show _ = _; rw [higq_take HX.out, ← HM.out, maxq_pos c2]
                  have o1 : ¬ ordq x m < 0 := fun h => c1 (ordq_neg.1 h)
                  have o2 : 0 < ordq x M := ordq_pos.2 c2
                  clear c1 c2
                  obtain ⟨ue1, te1, hlte1, ze10, ze11, ze12, ze1s, ze1d⟩ := hU.at2 HX.out
                  obtain ⟨Ae1, ce1, rfl, _⟩ := id ze1s
                  obtain ⟨De1, ee1, rfl, _⟩ := id ze1d
                  have ze1 : IsP wr (.agg #[.bool (ngB (x).num), .slice Ae1 (digs 10000 (x).num.natAbs).length ce1, .slice De1 (digs 10000 (x).den).length ee1]) (x) := ⟨_, _, rfl, ze1s, ze1d⟩
                  go_upto_region 10 with (fail)
                  refine flow 7 [Pd.eq (.slice (some ⟨gU_, oU_, none⟩) qs.length cU_), Pd.eq (.int .i64 (k : Int)), Pd.eq (.pointer (some ⟨gU_, oU_ + k * 3, none⟩)), Pd.eq (.agg #[.bool (ngB (x).num), .slice Ae1 (digs 10000 (x).num.natAbs).length ce1, .slice De1 (digs 10000 (x).den).length ee1]), Pd.eq (.agg #[.bool (ngB (m).num), .slice Alo (digs 10000 (m).num.natAbs).length clo, .slice Dlo (digs 10000 (m).den).length elo]), Pd.eq (.int .i64 (ordq (x) (m))), Pd.eq (.bool (decide ((ordq (x) (m)) < 0)))] (by kernel_rfl) (by kernel_rfl) ?ob16 ?done16
                  case ob16 =>
                    refine And.intro (ob_move rfl (wt_none rfl) (ev_far rfl rfl) (fun _ _ h => h)) ?_
                    refine And.intro (ob_move rfl (wt_none rfl) (ev_far rfl rfl) (fun _ _ h => h)) ?_
                    refine And.intro (ob_indexAddr rfl (wt_none rfl) (ev_dep (j := 0) (by kernel_rfl) rfl rfl) (ev_dep (j := 1) (by kernel_rfl) rfl rfl) (fun _ _ _ hx hy => ⟨_, by rw [hx, hy]; exact index3 (k := k) Tryz.underlying29 (by kernel_rfl) hlte1 _, rfl⟩)) ?_
                    refine And.intro (ob_load rfl (wt_none rfl) (ev_dep (j := 2) (by kernel_rfl) rfl rfl) (fun w2 hb => load3 Tryz.underlying41 rfl (by kernel_rfl) ((hb.cell (World.block_lt_of_cell? wr _ ze10)).trans ze10) ((hb.cell (World.block_lt_of_cell? wr _ ze11)).trans ze11) ((hb.cell (World.block_lt_of_cell? wr _ ze12)).trans ze12)) (fun _ _ => rfl)) ?_
                    refine And.intro (ob_load rfl (wt_none rfl) (ev_far rfl rfl) (fun w2 hb => run_loadAll Tryz.underlying41 rfl (by kernel_rfl) (Blo.drew.below hb)) (fun _ _ => rfl)) ?_
                    refine And.intro (ob_call2 rfl Tryz.func26 (by kernel_rfl) (wt_none rfl) (ev_dep (j := 3) (by kernel_rfl) rfl rfl) (ev_dep (j := 4) (by kernel_rfl) rfl rfl) (fun w2 u0 u1 hb h0 h1 => by obtain rfl := h0; obtain rfl := h1; exact (qcmp_any _ (x) _ (m) _ _ (ze1.drew.below hb) (klo.drew.below hb) (lx.mono (by decide)) (lm.mono (by decide)) rfl).mono fun e w3 h => RetV.pd h)) ?_
                    refine And.intro (ob_bin rfl (wt_none rfl) (ev_dep (j := 5) (by kernel_rfl) rfl rfl) (ev_const _) (fun _ _ _ hx hy => ⟨.bool (decide ((ordq (x) (m)) < 0)), by rw [hx, hy]; exact bin_lss_int _ _ _ _ _, rfl⟩)) ?_
                    trivial
                  case done16 =>
                    refine fun w9 hb9 v0 h0 v1 h1 v2 h2 v3 h3 v4 h4 v5 h5 v6 h6 b hbf => ?_
                    obtain rfl := h0; obtain rfl := h1; obtain rfl := h2; obtain rfl := h3; obtain rfl := h4; obtain rfl := h5; obtain rfl := h6
                    simp only [Act.put, List.setIfInBounds_toArray, List.set_cons_zero, List.set_cons_succ] at hbf
                    subst hbf
                    replace Ba := Ba.below hb9
                    replace kas := kas.below hb9
                    replace kad := kad.below hb9
                    replace kaz := kaz.below hb9
                    replace ka := ka.below hb9
                    replace Bb := Bb.below hb9
                    replace kbs := kbs.below hb9
                    replace kbd := kbd.below hb9
                    replace kbz := kbz.below hb9
                    replace kb := kb.below hb9
                    replace Blo := Blo.below hb9
                    replace klos := klos.below hb9
                    replace klod := klod.below hb9
                    replace kloz := kloz.below hb9
                    replace klo := klo.below hb9
                    replace Bhi := Bhi.below hb9
                    replace khis := khis.below hb9
                    replace khid := khid.below hb9
                    replace khiz := khiz.below hb9
                    replace khi := khi.below hb9
                    replace hU := hU.below hb9
                    replace bb := bb.trans (hb9.mono bb.size)
                    have hsz9 := bb.size
                    refine any_done (by kernel_rfl) ?_
                    obtain ⟨ue3, te3, hlte3, ze30, ze31, ze32, ze3s, ze3d⟩ := hU.at2 HX.out
                    obtain ⟨Ae3, ce3, rfl, _⟩ := id ze3s
                    obtain ⟨De3, ee3, rfl, _⟩ := id ze3d
                    have ze3 : IsP w9 (.agg #[.bool (ngB (x).num), .slice Ae3 (digs 10000 (x).num.natAbs).length ce3, .slice De3 (digs 10000 (x).den).length ee3]) (x) := ⟨_, _, rfl, ze3s, ze3d⟩
                    go_upto_region 12 with (fail)
                    refine flow 7 [Pd.eq (.slice (some ⟨gU_, oU_, none⟩) qs.length cU_), Pd.eq (.int .i64 (k : Int)), Pd.eq (.pointer (some ⟨gU_, oU_ + k * 3, none⟩)), Pd.eq (.agg #[.bool (ngB (x).num), .slice Ae3 (digs 10000 (x).num.natAbs).length ce3, .slice De3 (digs 10000 (x).den).length ee3]), Pd.eq (.agg #[.bool (ngB (M).num), .slice Ahi (digs 10000 (M).num.natAbs).length chi, .slice Dhi (digs 10000 (M).den).length ehi]), Pd.eq (.int .i64 (ordq (x) (M))), Pd.eq (.bool (decide (0 < (ordq (x) (M)))))] (by kernel_rfl) (by kernel_rfl) ?ob17 ?done17
                    case ob17 =>
                      refine And.intro (ob_move rfl (wt_none rfl) (ev_far rfl rfl) (fun _ _ h => h)) ?_
                      refine And.intro (ob_move rfl (wt_none rfl) (ev_far rfl rfl) (fun _ _ h => h)) ?_
                      refine And.intro (ob_indexAddr rfl (wt_none rfl) (ev_dep (j := 0) (by kernel_rfl) rfl rfl) (ev_dep (j := 1) (by kernel_rfl) rfl rfl) (fun _ _ _ hx hy => ⟨_, by rw [hx, hy]; exact index3 (k := k) Tryz.underlying29 (by kernel_rfl) hlte3 _, rfl⟩)) ?_
                      refine And.intro (ob_load rfl (wt_none rfl) (ev_dep (j := 2) (by kernel_rfl) rfl rfl) (fun w2 hb => load3 Tryz.underlying41 rfl (by kernel_rfl) ((hb.cell (World.block_lt_of_cell? w9 _ ze30)).trans ze30) ((hb.cell (World.block_lt_of_cell? w9 _ ze31)).trans ze31) ((hb.cell (World.block_lt_of_cell? w9 _ ze32)).trans ze32)) (fun _ _ => rfl)) ?_
                      refine And.intro (ob_load rfl (wt_none rfl) (ev_far rfl rfl) (fun w2 hb => run_loadAll Tryz.underlying41 rfl (by kernel_rfl) (Bhi.drew.below hb)) (fun _ _ => rfl)) ?_
                      refine And.intro (ob_call2 rfl Tryz.func26 (by kernel_rfl) (wt_none rfl) (ev_dep (j := 3) (by kernel_rfl) rfl rfl) (ev_dep (j := 4) (by kernel_rfl) rfl rfl) (fun w2 u0 u1 hb h0 h1 => by obtain rfl := h0; obtain rfl := h1; exact (qcmp_any _ (x) _ (M) _ _ (ze3.drew.below hb) (khi.drew.below hb) (lx.mono (by decide)) (lM.mono (by decide)) rfl).mono fun e w3 h => RetV.pd h)) ?_
                      refine And.intro (ob_bin rfl (wt_none rfl) (ev_dep (j := 5) (by kernel_rfl) rfl rfl) (ev_const _) (fun _ _ _ hx hy => ⟨.bool (decide (0 < (ordq (x) (M)))), by rw [hx, hy]; exact bin_gtr_int _ _ _ _ _, rfl⟩)) ?_
                      trivial
                    case done17 =>
                      refine fun w10 hb10 v0 h0 v1 h1 v2 h2 v3 h3 v4 h4 v5 h5 v6 h6 b hbf => ?_
                      obtain rfl := h0; obtain rfl := h1; obtain rfl := h2; obtain rfl := h3; obtain rfl := h4; obtain rfl := h5; obtain rfl := h6
                      simp only [Act.put, List.setIfInBounds_toArray, List.set_cons_zero, List.set_cons_succ] at hbf
                      subst hbf
                      replace Ba := Ba.below hb10
                      replace kas := kas.below hb10
                      replace kad := kad.below hb10
                      replace kaz := kaz.below hb10
                      replace ka := ka.below hb10
                      replace Bb := Bb.below hb10
                      replace kbs := kbs.below hb10
                      replace kbd := kbd.below hb10
                      replace kbz := kbz.below hb10
                      replace kb := kb.below hb10
                      replace Blo := Blo.below hb10
                      replace klos := klos.below hb10
                      replace klod := klod.below hb10
                      replace kloz := kloz.below hb10
                      replace klo := klo.below hb10
                      replace Bhi := Bhi.below hb10
                      replace khis := khis.below hb10
                      replace khid := khid.below hb10
                      replace khiz := khiz.below hb10
                      replace khi := khi.below hb10
                      replace hU := hU.below hb10
                      replace bb := bb.trans (hb10.mono bb.size)
                      have hsz10 := bb.size
                      refine any_done (by kernel_rfl) ?_
                      obtain ⟨uh2, th2, hlth2, zh20, zh21, zh22, zh2s, zh2d⟩ := hU.at2 HX.out
                      obtain ⟨Ah2, ch2, rfl, _⟩ := id zh2s
                      obtain ⟨Dh2, eh2, rfl, _⟩ := id zh2d
                      have zh2 : IsP w10 (.agg #[.bool (ngB (x).num), .slice Ah2 (digs 10000 (x).num.natAbs).length ch2, .slice Dh2 (digs 10000 (x).den).length eh2]) (x) := ⟨_, _, rfl, zh2s, zh2d⟩
                      go_upto_region 13 with (fail)
                      refine flowp 4 [Pd.eq (.slice (some ⟨gU_, oU_, none⟩) qs.length cU_), Pd.eq (.int .i64 (k : Int)), Pd.eq (.pointer (some ⟨gU_, oU_ + k * 3, none⟩)), Pd.eq (.agg #[.bool (ngB (x).num), .slice Ah2 (digs 10000 (x).num.natAbs).length ch2, .slice Dh2 (digs 10000 (x).den).length eh2])] (by kernel_rfl) ?ob18 ?done18
                      case ob18 =>
                        refine And.intro (ob_move rfl (wt_none rfl) (ev_far rfl rfl) (fun _ _ h => h)) ?_
                        refine And.intro (ob_move rfl (wt_none rfl) (ev_far rfl rfl) (fun _ _ h => h)) ?_
                        refine And.intro (ob_indexAddr rfl (wt_none rfl) (ev_dep (j := 0) (by kernel_rfl) rfl rfl) (ev_dep (j := 1) (by kernel_rfl) rfl rfl) (fun _ _ _ hx hy => ⟨_, by rw [hx, hy]; exact index3 (k := k) Tryz.underlying29 (by kernel_rfl) hlth2 _, rfl⟩)) ?_
                        refine And.intro (ob_load rfl (wt_none rfl) (ev_dep (j := 2) (by kernel_rfl) rfl rfl) (fun w2 hb => load3 Tryz.underlying41 rfl (by kernel_rfl) ((hb.cell (World.block_lt_of_cell? w10 _ zh20)).trans zh20) ((hb.cell (World.block_lt_of_cell? w10 _ zh21)).trans zh21) ((hb.cell (World.block_lt_of_cell? w10 _ zh22)).trans zh22)) (fun _ _ => rfl)) ?_
                        trivial
                      case done18 =>
                        refine fun w11 hb11 v0 h0 v1 h1 v2 h2 v3 h3 b hbf => ?_
                        obtain rfl := h0; obtain rfl := h1; obtain rfl := h2; obtain rfl := h3
                        simp only [Act.put, List.setIfInBounds_toArray, List.set_cons_zero, List.set_cons_succ] at hbf
                        subst hbf
                        replace Ba := Ba.below hb11
                        replace kas := kas.below hb11
                        replace kad := kad.below hb11
                        replace kaz := kaz.below hb11
                        replace ka := ka.below hb11
                        replace Bb := Bb.below hb11
                        replace kbs := kbs.below hb11
                        replace kbd := kbd.below hb11
                        replace kbz := kbz.below hb11
                        replace kb := kb.below hb11
                        replace Blo := Blo.below hb11
                        replace klos := klos.below hb11
                        replace klod := klod.below hb11
                        replace kloz := kloz.below hb11
                        replace klo := klo.below hb11
                        replace Bhi := Bhi.below hb11
                        replace khis := khis.below hb11
                        replace khid := khid.below hb11
                        replace khiz := khiz.below hb11
                        replace khi := khi.below hb11
                        replace hU := hU.below hb11
                        replace zh2s := zh2s.below hb11
                        replace zh2d := zh2d.below hb11
                        replace bb := bb.trans (hb11.mono bb.size)
                        have hsz11 := bb.size
                        have q3 := zh2s
                        have d3 := zh2d
                        refine ops_store (i := 4) rfl rfl rfl rfl rfl rfl (cells := [.bool (ngB (x).num), .slice Ah2 (digs 10000 (x).num.natAbs).length ch2, .slice Dh2 (digs 10000 (x).den).length eh2]) rfl Bhi rfl (by kernel_rfl) (one3 rfl rfl rfl) fun w12 hg12 BN12 => ?_
                        replace hU := hU.off Bhi no_ints3 hg12 (fun e => by have e2 : gU_ = g8_7 := Option.some.inj e; omega)
                        replace q3 := off q3 Bhi no_ints3 hg12
                        replace d3 := off d3 Bhi no_ints3 hg12
                        replace kas := off kas Bhi no_ints3 hg12
                        replace kad := off kad Bhi no_ints3 hg12
                        replace kaz : IsZ w12 (.agg #[.bool (ngB (LO).num), .slice Aa (digs 4294967296 (LO).num.natAbs).length ca]) ((LO).num) := ⟨_, rfl, kas⟩
                        replace ka : IsQ w12 (.agg #[.bool (ngB (LO).num), .slice Aa (digs 4294967296 (LO).num.natAbs).length ca, .slice Da (digs 4294967296 (LO).den).length ea]) (LO) := ⟨_, _, rfl, kas, kad⟩
                        replace Ba := Ba.grown hg12 (by omega)
                        replace kbs := off kbs Bhi no_ints3 hg12
                        replace kbd := off kbd Bhi no_ints3 hg12
                        replace kbz : IsZ w12 (.agg #[.bool (ngB (HI).num), .slice Ab (digs 4294967296 (HI).num.natAbs).length cb]) ((HI).num) := ⟨_, rfl, kbs⟩
                        replace kb : IsQ w12 (.agg #[.bool (ngB (HI).num), .slice Ab (digs 4294967296 (HI).num.natAbs).length cb, .slice Db (digs 4294967296 (HI).den).length eb]) (HI) := ⟨_, _, rfl, kbs, kbd⟩
                        replace Bb := Bb.grown hg12 (by omega)
                        replace klos := off klos Bhi no_ints3 hg12
                        replace klod := off klod Bhi no_ints3 hg12
                        replace kloz : IsR w12 (.agg #[.bool (ngB (m).num), .slice Alo (digs 10000 (m).num.natAbs).length clo]) ((m).num) := ⟨_, rfl, klos⟩
                        replace klo : IsP w12 (.agg #[.bool (ngB (m).num), .slice Alo (digs 10000 (m).num.natAbs).length clo, .slice Dlo (digs 10000 (m).den).length elo]) (m) := ⟨_, _, rfl, klos, klod⟩
                        replace Blo := Blo.grown hg12 (by omega)
                        replace bb := bb.trans ((Below.refl _ _).grown hg12 bb.size (fun g hg => by injection hg with hg; omega))
                        have hsz12 := bb.size
                        have Bh2 : Blk w12 (g8_7) _ _ := BN12
                        have kh2s := q3
                        have kh2d := d3
                        have kh2z : IsR w12 (.agg #[.bool (ngB (x).num), .slice Ah2 (digs 10000 (x).num.natAbs).length ch2]) ((x).num) := ⟨_, rfl, kh2s⟩
                        have kh2 : IsP w12 (.agg #[.bool (ngB (x).num), .slice Ah2 (digs 10000 (x).num.natAbs).length ch2, .slice Dh2 (digs 10000 (x).den).length eh2]) (x) := ⟨_, _, rfl, kh2s, kh2d⟩
                        refine ops_done ?_
                        have hsk : qs.length - (k + 1) < qs.length - k := by omega
                        go_wp2
                        go_roundw
                        case rel => exact ⟨k + 1, by omega, (by rw [← HN1.out]; exact ⟨_, _, Blo, klos, klod⟩), (by rw [← HN2.out]; exact ⟨_, _, Bh2, kh2s, kh2d⟩), ⟨_, _, Ba, kas, kad⟩, ⟨_, _, Bb, kbs, kbd⟩, hU, bb, by go_num⟩
                        case measure => simp [RowKit.intOf]; omega
                · have HN1 : Hid (m = lowq q0 (qs.take (k + 1))) := by show _ = _; rw [lowq_take HX.out, ← Hm.out, minq_neg c1]
                  have HN2 : Hid (M = higq q0 (qs.take (k + 1))) := by show _ = _; rw [higq_take HX.out, ← HM.out, maxq_neg c2]
                  have o1 : ¬ ordq x m < 0 := fun h => c1 (ordq_neg.1 h)
                  have o2 : ¬ 0 < ordq x M := fun h => c2 (ordq_pos.1 h)
                  clear c1 c2
                  obtain ⟨ue1, te1, hlte1, ze10, ze11, ze12, ze1s, ze1d⟩ := hU.at2 HX.out
                  obtain ⟨Ae1, ce1, rfl, _⟩ := id ze1s
                  obtain ⟨De1, ee1, rfl, _⟩ := id ze1d
                  have ze1 : IsP wr (.agg #[.bool (ngB (x).num), .slice Ae1 (digs 10000 (x).num.natAbs).length ce1, .slice De1 (digs 10000 (x).den).length ee1]) (x) := ⟨_, _, rfl, ze1s, ze1d⟩
                  go_upto_region 10 with (fail)
                  refine flow 7 [Pd.eq (.slice (some ⟨gU_, oU_, none⟩) qs.length cU_), Pd.eq (.int .i64 (k : Int)), Pd.eq (.pointer (some ⟨gU_, oU_ + k * 3, none⟩)), Pd.eq (.agg #[.bool (ngB (x).num), .slice Ae1 (digs 10000 (x).num.natAbs).length ce1, .slice De1 (digs 10000 (x).den).length ee1]), Pd.eq (.agg #[.bool (ngB (m).num), .slice Alo (digs 10000 (m).num.natAbs).length clo, .slice Dlo (digs 10000 (m).den).length elo]), Pd.eq (.int .i64 (ordq (x) (m))), Pd.eq (.bool (decide ((ordq (x) (m)) < 0)))] (by kernel_rfl) (by kernel_rfl) ?ob19 ?done19
                  case ob19 =>
                    refine And.intro (ob_move rfl (wt_none rfl) (ev_far rfl rfl) (fun _ _ h => h)) ?_
                    refine And.intro (ob_move rfl (wt_none rfl) (ev_far rfl rfl) (fun _ _ h => h)) ?_
                    refine And.intro (ob_indexAddr rfl (wt_none rfl) (ev_dep (j := 0) (by kernel_rfl) rfl rfl) (ev_dep (j := 1) (by kernel_rfl) rfl rfl) (fun _ _ _ hx hy => ⟨_, by rw [hx, hy]; exact index3 (k := k) Tryz.underlying29 (by kernel_rfl) hlte1 _, rfl⟩)) ?_
                    refine And.intro (ob_load rfl (wt_none rfl) (ev_dep (j := 2) (by kernel_rfl) rfl rfl) (fun w2 hb => load3 Tryz.underlying41 rfl (by kernel_rfl) ((hb.cell (World.block_lt_of_cell? wr _ ze10)).trans ze10) ((hb.cell (World.block_lt_of_cell? wr _ ze11)).trans ze11) ((hb.cell (World.block_lt_of_cell? wr _ ze12)).trans ze12)) (fun _ _ => rfl)) ?_
                    refine And.intro (ob_load rfl (wt_none rfl) (ev_far rfl rfl) (fun w2 hb => run_loadAll Tryz.underlying41 rfl (by kernel_rfl) (Blo.drew.below hb)) (fun _ _ => rfl)) ?_
                    refine And.intro (ob_call2 rfl Tryz.func26 (by kernel_rfl) (wt_none rfl) (ev_dep (j := 3) (by kernel_rfl) rfl rfl) (ev_dep (j := 4) (by kernel_rfl) rfl rfl) (fun w2 u0 u1 hb h0 h1 => by obtain rfl := h0; obtain rfl := h1; exact (qcmp_any _ (x) _ (m) _ _ (ze1.drew.below hb) (klo.drew.below hb) (lx.mono (by decide)) (lm.mono (by decide)) rfl).mono fun e w3 h => RetV.pd h)) ?_
                    refine And.intro (ob_bin rfl (wt_none rfl) (ev_dep (j := 5) (by kernel_rfl) rfl rfl) (ev_const _) (fun _ _ _ hx hy => ⟨.bool (decide ((ordq (x) (m)) < 0)), by rw [hx, hy]; exact bin_lss_int _ _ _ _ _, rfl⟩)) ?_
                    trivial
                  case done19 =>
                    refine fun w9 hb9 v0 h0 v1 h1 v2 h2 v3 h3 v4 h4 v5 h5 v6 h6 b hbf => ?_
                    obtain rfl := h0; obtain rfl := h1; obtain rfl := h2; obtain rfl := h3; obtain rfl := h4; obtain rfl := h5; obtain rfl := h6
                    simp only [Act.put, List.setIfInBounds_toArray, List.set_cons_zero, List.set_cons_succ] at hbf
                    subst hbf
                    replace Ba := Ba.below hb9
                    replace kas := kas.below hb9
                    replace kad := kad.below hb9
                    replace kaz := kaz.below hb9
                    replace ka := ka.below hb9
                    replace Bb := Bb.below hb9
                    replace kbs := kbs.below hb9
                    replace kbd := kbd.below hb9
                    replace kbz := kbz.below hb9
                    replace kb := kb.below hb9
                    replace Blo := Blo.below hb9
                    replace klos := klos.below hb9
                    replace klod := klod.below hb9
                    replace kloz := kloz.below hb9
                    replace klo := klo.below hb9
                    replace Bhi := Bhi.below hb9
                    replace khis := khis.below hb9
                    replace khid := khid.below hb9
                    replace khiz := khiz.below hb9
                    replace khi := khi.below hb9
                    replace hU := hU.below hb9
                    replace bb := bb.trans (hb9.mono bb.size)
                    have hsz9 := bb.size
                    refine any_done (by kernel_rfl) ?_
                    obtain ⟨ue3, te3, hlte3, ze30, ze31, ze32, ze3s, ze3d⟩ := hU.at2 HX.out
                    obtain ⟨Ae3, ce3, rfl, _⟩ := id ze3s
                    obtain ⟨De3, ee3, rfl, _⟩ := id ze3d
                    have ze3 : IsP w9 (.agg #[.bool (ngB (x).num), .slice Ae3 (digs 10000 (x).num.natAbs).length ce3, .slice De3 (digs 10000 (x).den).length ee3]) (x) := ⟨_, _, rfl, ze3s, ze3d⟩
                    go_upto_region 12 with (fail)
                    refine flow 7 [Pd.eq (.slice (some ⟨gU_, oU_, none⟩) qs.length cU_), Pd.eq (.int .i64 (k : Int)), Pd.eq (.pointer (some ⟨gU_, oU_ + k * 3, none⟩)), Pd.eq (.agg #[.bool (ngB (x).num), .slice Ae3 (digs 10000 (x).num.natAbs).length ce3, .slice De3 (digs 10000 (x).den).length ee3]), Pd.eq (.agg #[.bool (ngB (M).num), .slice Ahi (digs 10000 (M).num.natAbs).length chi, .slice Dhi (digs 10000 (M).den).length ehi]), Pd.eq (.int .i64 (ordq (x) (M))), Pd.eq (.bool (decide (0 < (ordq (x) (M)))))] (by kernel_rfl) (by kernel_rfl) ?ob20 ?done20
                    case ob20 =>
                      refine And.intro (ob_move rfl (wt_none rfl) (ev_far rfl rfl) (fun _ _ h => h)) ?_
                      refine And.intro (ob_move rfl (wt_none rfl) (ev_far rfl rfl) (fun _ _ h => h)) ?_
                      refine And.intro (ob_indexAddr rfl (wt_none rfl) (ev_dep (j := 0) (by kernel_rfl) rfl rfl) (ev_dep (j := 1) (by kernel_rfl) rfl rfl) (fun _ _ _ hx hy => ⟨_, by rw [hx, hy]; exact index3 (k := k) Tryz.underlying29 (by kernel_rfl) hlte3 _, rfl⟩)) ?_
                      refine And.intro (ob_load rfl (wt_none rfl) (ev_dep (j := 2) (by kernel_rfl) rfl rfl) (fun w2 hb => load3 Tryz.underlying41 rfl (by kernel_rfl) ((hb.cell (World.block_lt_of_cell? w9 _ ze30)).trans ze30) ((hb.cell (World.block_lt_of_cell? w9 _ ze31)).trans ze31) ((hb.cell (World.block_lt_of_cell? w9 _ ze32)).trans ze32)) (fun _ _ => rfl)) ?_
                      refine And.intro (ob_load rfl (wt_none rfl) (ev_far rfl rfl) (fun w2 hb => run_loadAll Tryz.underlying41 rfl (by kernel_rfl) (Bhi.drew.below hb)) (fun _ _ => rfl)) ?_
                      refine And.intro (ob_call2 rfl Tryz.func26 (by kernel_rfl) (wt_none rfl) (ev_dep (j := 3) (by kernel_rfl) rfl rfl) (ev_dep (j := 4) (by kernel_rfl) rfl rfl) (fun w2 u0 u1 hb h0 h1 => by obtain rfl := h0; obtain rfl := h1; exact (qcmp_any _ (x) _ (M) _ _ (ze3.drew.below hb) (khi.drew.below hb) (lx.mono (by decide)) (lM.mono (by decide)) rfl).mono fun e w3 h => RetV.pd h)) ?_
                      refine And.intro (ob_bin rfl (wt_none rfl) (ev_dep (j := 5) (by kernel_rfl) rfl rfl) (ev_const _) (fun _ _ _ hx hy => ⟨.bool (decide (0 < (ordq (x) (M)))), by rw [hx, hy]; exact bin_gtr_int _ _ _ _ _, rfl⟩)) ?_
                      trivial
                    case done20 =>
                      refine fun w10 hb10 v0 h0 v1 h1 v2 h2 v3 h3 v4 h4 v5 h5 v6 h6 b hbf => ?_
                      obtain rfl := h0; obtain rfl := h1; obtain rfl := h2; obtain rfl := h3; obtain rfl := h4; obtain rfl := h5; obtain rfl := h6
                      simp only [Act.put, List.setIfInBounds_toArray, List.set_cons_zero, List.set_cons_succ] at hbf
                      subst hbf
                      replace Ba := Ba.below hb10
                      replace kas := kas.below hb10
                      replace kad := kad.below hb10
                      replace kaz := kaz.below hb10
                      replace ka := ka.below hb10
                      replace Bb := Bb.below hb10
                      replace kbs := kbs.below hb10
                      replace kbd := kbd.below hb10
                      replace kbz := kbz.below hb10
                      replace kb := kb.below hb10
                      replace Blo := Blo.below hb10
                      replace klos := klos.below hb10
                      replace klod := klod.below hb10
                      replace kloz := kloz.below hb10
                      replace klo := klo.below hb10
                      replace Bhi := Bhi.below hb10
                      replace khis := khis.below hb10
                      replace khid := khid.below hb10
                      replace khiz := khiz.below hb10
                      replace khi := khi.below hb10
                      replace hU := hU.below hb10
                      replace bb := bb.trans (hb10.mono bb.size)
                      have hsz10 := bb.size
                      refine any_done (by kernel_rfl) ?_
                      have hsk : qs.length - (k + 1) < qs.length - k := by omega
                      go_wp2
                      go_roundw
                      case rel => exact ⟨k + 1, by omega, (by rw [← HN1.out]; exact ⟨_, _, Blo, klos, klod⟩), (by rw [← HN2.out]; exact ⟨_, _, Bhi, khis, khid⟩), ⟨_, _, Ba, kas, kad⟩, ⟨_, _, Bb, kbs, kbd⟩, hU, bb, by go_num⟩
                      case measure => simp [RowKit.intOf]; omega
            · have HmL : Hid (LO = m) := by show _ = _; rw [Hm.out, HLO.out, List.take_of_length_le (by omega), lowq_own HQ0.out]
              have HML : Hid (HI = M) := by show _ = _; rw [HM.out, HHI.out, List.take_of_length_le (by omega), higq_own HQ0.out]
              go_upto_region 14 with (fail)
              refine flow 22 [Pd.eq (.int .i64 0), Pd.eq (.bool true), Pd.eq (.bool true), Pd.eq (.int .i64 0), Pd.eq (.bool true), Pd.eq (.bool true), Pd.eq (.bool true), Pd.eq (.agg #[.bool (ngB (LO).num), .slice Aa (digs 4294967296 (LO).num.natAbs).length ca, .slice Da (digs 4294967296 (LO).den).length ea]), Pd.eq (.agg #[.bool (ngB (m).num), .slice Alo (digs 10000 (m).num.natAbs).length clo, .slice Dlo (digs 10000 (m).den).length elo]), pqn (m), Pd.eq (.bool true), Pd.eq (.bool true), Pd.eq (.bool true), Pd.eq (.agg #[.bool (ngB (HI).num), .slice Ab (digs 4294967296 (HI).num.natAbs).length cb, .slice Db (digs 4294967296 (HI).den).length eb]), Pd.eq (.agg #[.bool (ngB (M).num), .slice Ahi (digs 10000 (M).num.natAbs).length chi, .slice Dhi (digs 10000 (M).den).length ehi]), pqn (M), Pd.eq (.bool true), Pd.eq (.bool true), Pd.eq (.bool true), Pd.eq (.bool true), Pd.eq (.bool true), Pd.eq (.bool true)] (by kernel_rfl) (by kernel_rfl) ?ob21 ?done21
              case ob21 =>
                refine And.intro (ob_move rfl (wt_none rfl) (ev_far rfl rfl) (fun _ _ h => h)) ?_
                refine And.intro (ob_bin rfl (wt_none rfl) (ev_dep (j := 0) (by kernel_rfl) rfl rfl) (ev_const _) (fun _ _ _ hx hy => ⟨.bool ((0 : Int) == 0), by rw [hx, hy]; exact bin_eql_int _ _ _ _ _, congrArg Value.bool (by decide)⟩)) ?_
                refine And.intro (ob_move rfl (wt_none rfl) (ev_dep (j := 1) (by kernel_rfl) rfl rfl) (fun _ _ h => h)) ?_
                refine And.intro (ob_move rfl (wt_dep (c := true) (b := true) (g := 2) rfl (by kernel_rfl) rfl rfl rfl (by exact fun _ _ h => h)) (ev_far rfl rfl) (fun _ _ h => h)) ?_
                refine And.intro (ob_bin rfl (wt_dep (c := true) (b := true) (g := 2) rfl (by kernel_rfl) rfl rfl rfl (by exact fun _ _ h => h)) (ev_dep (j := 3) (by kernel_rfl) rfl rfl) (ev_const _) (fun _ _ _ hx hy => ⟨.bool ((0 : Int) == 0), by rw [hx, hy]; exact bin_eql_int _ _ _ _ _, congrArg Value.bool (by decide)⟩)) ?_
                refine And.intro (ob_pick (b := true) rfl (wt_none rfl) (ev_dep (j := 2) (by kernel_rfl) rfl rfl) (ev_dep (j := 4) (by kernel_rfl) rfl rfl) (fun _ _ h => h)) ?_
                refine And.intro (ob_move rfl (wt_none rfl) (ev_dep (j := 5) (by kernel_rfl) rfl rfl) (fun _ _ h => h)) ?_
                refine And.intro (ob_load rfl (wt_dep (c := true) (b := true) (g := 6) rfl (by kernel_rfl) rfl rfl rfl (by exact fun _ _ h => h)) (ev_far rfl rfl) (fun w2 hb => run_loadAll Tryz.underlying28 rfl (by kernel_rfl) (Ba.drew.below hb)) (fun _ _ => rfl)) ?_
                refine And.intro (ob_load rfl (wt_dep (c := true) (b := true) (g := 6) rfl (by kernel_rfl) rfl rfl rfl (by exact fun _ _ h => h)) (ev_far rfl rfl) (fun w2 hb => run_loadAll Tryz.underlying41 rfl (by kernel_rfl) (Blo.drew.below hb)) (fun _ _ => rfl)) ?_
                refine And.intro (ob_call1 rfl Tryz.func13 (by kernel_rfl) (wt_dep (c := true) (b := true) (g := 6) rfl (by kernel_rfl) rfl rfl rfl (by exact fun _ _ h => h)) (ev_dep (j := 8) (by kernel_rfl) rfl rfl) (fun w2 u0 hb h0 => by obtain rfl := h0; exact (qback_any _ _ _ (klo.drew.below hb) (lm.mono (by decide))).mono fun e w3 h => RetQn.pd (RetQ.n h))) ?_
                refine And.intro (ob_call2 rfl Tryz.func11 (by kernel_rfl) (wt_dep (c := true) (b := true) (g := 6) rfl (by kernel_rfl) rfl rfl rfl (by exact fun _ _ h => h)) (ev_dep (j := 7) (by kernel_rfl) rfl rfl) (ev_dep (j := 9) (by kernel_rfl) rfl rfl) (fun w2 u0 u1 hb h0 h1 => by obtain rfl := h0; exact (qsame_eq _ _ (LO) (m) _ (ka.drew.below hb) h1 HmL.out).mono fun e w3 h => RetV.pd h)) ?_
                refine And.intro (ob_pick (b := true) rfl (wt_none rfl) (ev_dep (j := 6) (by kernel_rfl) rfl rfl) (ev_dep (j := 10) (by kernel_rfl) rfl rfl) (fun _ _ h => h)) ?_
                refine And.intro (ob_move rfl (wt_none rfl) (ev_dep (j := 11) (by kernel_rfl) rfl rfl) (fun _ _ h => h)) ?_
                refine And.intro (ob_load rfl (wt_dep (c := true) (b := true) (g := 12) rfl (by kernel_rfl) rfl rfl rfl (by exact fun _ _ h => h)) (ev_far rfl rfl) (fun w2 hb => run_loadAll Tryz.underlying28 rfl (by kernel_rfl) (Bb.drew.below hb)) (fun _ _ => rfl)) ?_
                refine And.intro (ob_load rfl (wt_dep (c := true) (b := true) (g := 12) rfl (by kernel_rfl) rfl rfl rfl (by exact fun _ _ h => h)) (ev_far rfl rfl) (fun w2 hb => run_loadAll Tryz.underlying41 rfl (by kernel_rfl) (Bhi.drew.below hb)) (fun _ _ => rfl)) ?_
                refine And.intro (ob_call1 rfl Tryz.func13 (by kernel_rfl) (wt_dep (c := true) (b := true) (g := 12) rfl (by kernel_rfl) rfl rfl rfl (by exact fun _ _ h => h)) (ev_dep (j := 14) (by kernel_rfl) rfl rfl) (fun w2 u0 hb h0 => by obtain rfl := h0; exact (qback_any _ _ _ (khi.drew.below hb) (lM.mono (by decide))).mono fun e w3 h => RetQn.pd (RetQ.n h))) ?_
                refine And.intro (ob_call2 rfl Tryz.func11 (by kernel_rfl) (wt_dep (c := true) (b := true) (g := 12) rfl (by kernel_rfl) rfl rfl rfl (by exact fun _ _ h => h)) (ev_dep (j := 13) (by kernel_rfl) rfl rfl) (ev_dep (j := 15) (by kernel_rfl) rfl rfl) (fun w2 u0 u1 hb h0 h1 => by obtain rfl := h0; exact (qsame_eq _ _ (HI) (M) _ (kb.drew.below hb) h1 HML.out).mono fun e w3 h => RetV.pd h)) ?_
                refine And.intro (ob_pick (b := true) rfl (wt_none rfl) (ev_dep (j := 12) (by kernel_rfl) rfl rfl) (ev_dep (j := 16) (by kernel_rfl) rfl rfl) (fun _ _ h => h)) ?_
                refine And.intro (ob_move rfl (wt_none rfl) (ev_dep (j := 17) (by kernel_rfl) rfl rfl) (fun _ _ h => h)) ?_
                refine And.intro (ob_call0 rfl Tryz.func23 (by kernel_rfl) (wt_dep (c := true) (b := true) (g := 18) rfl (by kernel_rfl) rfl rfl rfl (by exact fun _ _ h => h)) (fun w2 hb => (works10_any _).mono fun e w3 h => RetV.pd h)) ?_
                refine And.intro (ob_pick (b := true) rfl (wt_none rfl) (ev_dep (j := 18) (by kernel_rfl) rfl rfl) (ev_dep (j := 19) (by kernel_rfl) rfl rfl) (fun _ _ h => h)) ?_
                refine And.intro (ob_assign rfl (wt_none rfl) (ev_dep (j := 20) (by kernel_rfl) rfl rfl) (fun _ _ h => h)) ?_
                trivial
              case done21 =>
                refine fun w9 hb9 v0 h0 v1 h1 v2 h2 v3 h3 v4 h4 v5 h5 v6 h6 v7 h7 v8 h8 v9 h9 v10 h10 v11 h11 v12 h12 v13 h13 v14 h14 v15 h15 v16 h16 v17 h17 v18 h18 v19 h19 v20 h20 v21 h21 b hbf => ?_
                obtain rfl := h0; obtain rfl := h1; obtain rfl := h2; obtain rfl := h3; obtain rfl := h4; obtain rfl := h5; obtain rfl := h6; obtain rfl := h7; obtain rfl := h8; obtain rfl := h10; obtain rfl := h11; obtain rfl := h12; obtain rfl := h13; obtain rfl := h14; obtain rfl := h16; obtain rfl := h17; obtain rfl := h18; obtain rfl := h19; obtain rfl := h20; obtain rfl := h21
                have q9 := h9
                have q15 := h15
                simp only [Act.put, List.setIfInBounds_toArray, List.set_cons_zero, List.set_cons_succ] at hbf
                subst hbf
                replace Ba := Ba.below hb9
                replace kas := kas.below hb9
                replace kad := kad.below hb9
                replace kaz := kaz.below hb9
                replace ka := ka.below hb9
                replace Bb := Bb.below hb9
                replace kbs := kbs.below hb9
                replace kbd := kbd.below hb9
                replace kbz := kbz.below hb9
                replace kb := kb.below hb9
                replace Blo := Blo.below hb9
                replace klos := klos.below hb9
                replace klod := klod.below hb9
                replace kloz := kloz.below hb9
                replace klo := klo.below hb9
                replace Bhi := Bhi.below hb9
                replace khis := khis.below hb9
                replace khid := khid.below hb9
                replace khiz := khiz.below hb9
                replace khi := khi.below hb9
                replace hU := hU.below hb9
                replace bb := bb.trans (hb9.mono bb.size)
                have hsz9 := bb.size
                refine any_done (by kernel_rfl) ?_
                go_wp2
                go_ret
                exact ⟨rfl, bb⟩
set_option maxRecDepth 100000 in
theorem lifted (os : Os) (started : os.Started) (H : Type) (enc : TypeId × Value → H) :
    ReturnsInHanded {} Tryz.checked os 4 .any (Rows.foldEndsSpec.pre6 enc Tryz.prog Tryz.f4 Rows.foldEndsRow.domain false) (Rows.foldEndsSpec.post enc Tryz.prog Tryz.f4 false true false false) := by
  refine returnsInHanded_of_change (C := Tryz.checked) own started (by kernel_rfl) Tryz.func4
    (ChangeSpec.witness6 (enc := enc) (C := Tryz.checked) false ⟨#[], #[.slice none 0 0], []⟩ 8 (by kernel_rfl) (by kernel_rfl) (by kernel_rfl) (by kernel_rfl)) ?_
  intro W base args ds gs before hval0 hW hcnd _
  have hval : ∀ (j : Nat) t v, Tryz.f4.params[j]? = some t → args[j]? = some v → Value.okWide Tryz.prog W .any base t v := hval0
  have hW' := hW
  obtain ⟨p, q, hA0, hV, rfl, hfz, hnd⟩ := hW
  have hA : DataW.TrodAll enc Tryz.prog W 0 (fun _ => true) true Tryz.f4.params.toList args.toList ds p := hA0
  rw [Tryz.params4] at hA hval
  obtain ⟨v0, vs0, d0, ds0, p0, q0, hargs, rfl, rfl, t0, r0⟩ := trodAll_cons hA
  obtain ⟨rfl, rfl, rfl⟩ := trodAll_nil r0
  obtain rfl : args = #[v0] := by cases args; simp_all
  obtain ⟨rfl, rfl⟩ := trodVars_none hV
  have hs0 := arg_qs Tryz.underlying22 Tryz.underlying28 (by kernel_rfl) (by kernel_rfl) Tryz.underlying26 (by kernel_rfl) Tryz.underlying4 Tryz.underlying24 Tryz.underlying24 Tryz.underlying71 cells_u (hval 0 22 v0 rfl rfl) t0
  clear hA0 hval0
  simp only [List.append_nil] at hW'
  have hlt0 : ∀ x ∈ p0, x.block < W.heap.size := fun x hx => hW'.lt x (hx)
  refine (walk v0 W hs0).mono fun e W' ⟨he, hb⟩ => ?_
  subst he
  have s0 := Below.trod laidOut (by kernel_rfl) (of_decide_eq_true (by kernel_rfl)) t0 hb hlt0
  exact ⟨_, rfl, _, _, _, [] ++ [], _, [], hW', trodAll_cons_mk (shut_bool Tryz.underlying4 _) trodAll_mk0, trodAll_cons_mk s0 (trodAll_mk0), rfl, hb.frame _, fun h => by cases h⟩
theorem over : Rows.foldEndsRow.holds Tryz.pinned (OpenSpec.ofChange Rows.foldEndsSpec) :=
  OpenClaim.holds_of_wide 4 Tryz.f4 rfl rfl rfl rfl rfl rfl rfl ⟨rfl, rfl, rfl, rfl, rfl⟩ rfl rfl rfl rfl rfl (by kernel_rfl) Tryz.func4 (by kernel_rfl)
    (of_decide_eq_true (by kernel_rfl)) (by unfold Func.isWrapper; first | (rw [if_pos (by decide +kernel)]; kernel_rfl) | (rw [if_neg (by decide +kernel)]; exact ⟨rfl, rfl⟩))
    (fun os started H enc _ => lifted os started H enc)
/-- The statement. -/
theorem proved : Rows.FoldEndsSaid := over
end Go.Proofs.YtlnmoledijlemaaGreat.foldEnds
