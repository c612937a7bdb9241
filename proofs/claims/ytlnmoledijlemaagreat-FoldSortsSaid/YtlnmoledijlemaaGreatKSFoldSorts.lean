/- FoldSorts: fractions sorted, and summed up one by one, and their bounds. Condition: the arguments can be read as data. -/
import Derived.Test.YtlnmoledijlemaaGreatKS6
import Derived.Deep.Cut
import Derived.OpenShut
import Derived.LaidMore
import Derived.Lay
import Derived.Stop.Joined
namespace Go.Proofs.YtlnmoledijlemaaGreat.foldSorts
open Go.ChangeShapes Go.WideShapes Go.ChangeAt Go.RowKit Go.Proofs.YtlnmoledijlemaaGreat.num Go.Proofs.YtlnmoledijlemaaGreat.mem Go.Proofs.YtlnmoledijlemaaGreat.nat Go.Proofs.YtlnmoledijlemaaGreat.txt Go.Proofs.YtlnmoledijlemaaGreat.str Go.Proofs.YtlnmoledijlemaaGreat.flow Go.Proofs.YtlnmoledijlemaaGreat.whl Go.Proofs.YtlnmoledijlemaaGreat.rat
set_option linter.unusedVariables false
theorem own : ownKnob Tryz.prog.godebug = none := by kernel_rfl
theorem laidOut : laidOutB Tryz.prog = true := by kernel_rfl
theorem cells_u : Tryz.prog.cellsOf 71 = 1 := by kernel_rfl
set_option maxHeartbeats 6400000 in
set_option maxRecDepth 100000 in
/-- The walk: the Go text returns true; what was there is as it was. -/
theorem walk (v0 : Value) (w : World) (h0 : ArgQs w v0) :
    Calls Tryz.prog 8 #[v0] w (RetV (.bool true) w) := by
  go_enter Tryz.func8, Tryz.ntmps8
  have bb : Below w.heap.size w w := Below.refl _ _
  have hsz0 := bb.size
  go_wp2_with fail
  refine (few_any v0 _ h0).mono ?_
  rintro e w1 ⟨V, U, qs, rfl, hV, hU, hlen, hlq, hb1, hfV, hfU⟩
  clear hfV hfU
  replace bb := bb.trans (hb1.mono bb.size)
  have hsz1 := bb.size
  have hq2 : ∀ q ∈ qs, lenQ q 2 := hlq
  obtain ⟨SM, hSM⟩ : ∃ SM, SM = sumq qs := ⟨_, rfl⟩
  obtain ⟨PR, hPR⟩ : ∃ PR, PR = prodq qs := ⟨_, rfl⟩
  obtain ⟨WB, hWB⟩ : ∃ WB, WB = decide (wholeQ qs) := ⟨_, rfl⟩
  have HLQ := Lib.hid hlq
  have lSM : lenQ SM 25 := by rw [hSM]; exact (lenQ_sumq hlq).mono (by omega)
  have lPR : lenQ PR 25 := by rw [hPR]; exact (lenQ_prodq hlq).mono (by omega)
  have HSM := Lib.hid hSM.symm
  have HPR := Lib.hid hPR.symm
  have HWB := Lib.hid hWB
  have HLS : Hid ((∀ q ∈ qs, lenQ q 2) ∧ (2 + 1) * qs.length + 1 ≤ 1000) := ⟨hlq, by omega⟩
  have HLP : Hid ((∀ q ∈ qs, lenQ q 2) ∧ 2 * qs.length + 1 ≤ 1000) := ⟨hlq, by omega⟩
  have HL8 : Hid (qs.length ≤ 8) := hlen
  clear hSM hPR hWB hlq hq2
  have lq1 : lenQ (1 : Rat) 1 := ⟨digs_len_le (k := 1) (by omega) (by decide +kernel), digs_len_le (k := 1) (by omega) (by decide +kernel)⟩
  have hq2 := HLQ.out
  go_wp2_with fail
  refine (fsorted_any V qs _ hV ⟨hlen, HLQ.out⟩).mono ?_
  rintro e w2 ⟨S, ss, rfl, hS, hSo, b2⟩
  replace hV := hV.below b2
  replace hU := hU.below b2
  replace bb := bb.trans (b2.mono bb.size)
  have hsz2 := bb.size
  go_wp2_with fail
  refine (frun_any V qs _ hV ⟨hlen, HLQ.out⟩).mono ?_
  rintro e w3 ⟨R, rfl, hR, b3⟩
  replace hV := hV.below b3
  replace hU := hU.below b3
  replace hS := hS.below b3
  replace bb := bb.trans (b3.mono bb.size)
  have hsz3 := bb.size
  have HSO := Lib.hid hSo
  have hsl := hSo.len
  clear hSo b2 b3
  by_cases hq0 : qs = []
  · obtain rfl := hq0
    obtain rfl := List.length_eq_zero_iff.1 (show ss.length = 0 from hsl)
    obtain ⟨AU, cU, rfl, _, _⟩ := hU.shape
    obtain ⟨AS, cS, rfl, _, _⟩ := hS.shape
    have hR2 : SlF .u64 4294967296 w3 R [] := hR
    obtain ⟨AR, cR, rfl, _, _⟩ := hR2.shape
    obtain ⟨AV, cV, rfl, _, _⟩ := hV.shape
    have HV0 := Lib.hid hV
    clear hR2 hsl hV hU hS hR
    go_upto_region 3 with (fail)
    refine flowp 8 [Pd.eq (.slice AV ([] : List Rat).length cV), Pd.eq (.tuple #[.agg #[.bool false, .slice none 0 0, .slice none 0 0], .agg #[.bool false, .slice none 0 0, .slice none 0 0], .int .i64 9]), Pd.eq (.tuple #[.agg #[.bool false, .slice none 0 0, .slice none 0 0], .agg #[.bool false, .slice none 0 0, .slice none 0 0], .int .i64 9]), Pd.eq (.agg #[.bool false, .slice none 0 0, .slice none 0 0]), Pd.eq (.agg #[.bool false, .slice none 0 0, .slice none 0 0]), Pd.eq (.int .i64 9), pn 28 #[.bool false, .slice none 0 0, .slice none 0 0] w3.heap.size, pn 28 #[.bool false, .slice none 0 0, .slice none 0 0] w3.heap.size] (by kernel_rfl) ?ob80 ?done80
    case ob80 =>
      refine And.intro (ob_move rfl (wt_none rfl) (ev_far rfl rfl) (fun _ _ h => h)) ?_
      refine And.intro (ob_call1 rfl Tryz.func37 (by kernel_rfl) (wt_none rfl) (ev_dep (j := 0) (by kernel_rfl) rfl rfl) (fun w2 u0 hb h0 => by obtain rfl := h0; exact (fbounds_none _ _ HV0.out.any).mono fun e w3 h => RetV.pd h)) ?_
      refine And.intro (ob_move rfl (wt_none rfl) (ev_dep (j := 1) (by kernel_rfl) rfl rfl) (fun _ _ h => h)) ?_
      refine And.intro (ob_extract rfl (wt_none rfl) (ev_dep (j := 2) (by kernel_rfl) rfl rfl) (fun w2 u hu => by obtain rfl := hu; exact ⟨_, rfl, rfl⟩)) ?_
      refine And.intro (ob_extract rfl (wt_none rfl) (ev_dep (j := 2) (by kernel_rfl) rfl rfl) (fun w2 u hu => by obtain rfl := hu; exact ⟨_, rfl, rfl⟩)) ?_
      refine And.intro (ob_extract rfl (wt_none rfl) (ev_dep (j := 2) (by kernel_rfl) rfl rfl) (fun w2 u hu => by obtain rfl := hu; exact ⟨_, rfl, rfl⟩)) ?_
      refine And.intro (ob_alloc (z := .agg #[.bool false, .slice none 0 0, .slice none 0 0]) rfl rfl (fun _ => by kernel_rfl) (fun _ _ hB h => ⟨_, rfl, hB, h⟩)) ?_
      refine And.intro (ob_alloc (z := .agg #[.bool false, .slice none 0 0, .slice none 0 0]) rfl rfl (fun _ => by kernel_rfl) (fun _ _ hB h => ⟨_, rfl, hB, h⟩)) ?_
      trivial
    case done80 =>
      refine fun w4 hb4 v0 h0 v1 h1 v2 h2 v3 h3 v4 h4 v5 h5 v6 h6 d6 v7 h7 d7 b hbf => ?_
      obtain rfl := h0; obtain rfl := h1; obtain rfl := h2; obtain rfl := h3; obtain rfl := h4; obtain rfl := h5
      obtain ⟨g80_6, rfl, hg6, B6⟩ := h6
      obtain ⟨g80_7, rfl, hg7, B7⟩ := h7
      simp only [Act.put, List.setIfInBounds_toArray, List.set_cons_zero, List.set_cons_succ] at hbf
      subst hbf
      replace bb := bb.trans (hb4.mono bb.size)
      have hsz4 := bb.size
      have BA7 := B6
      have BA8 := B7
      have hne6_7 : g80_6 ≠ g80_7 := fun e => d7 (.pointer (some ⟨g80_6, 0, none⟩)) (by simp) (by rw [e])
      refine ops_store (i := 8) rfl rfl rfl rfl rfl rfl (cells := [.bool false, .slice none 0 0, .slice none 0 0]) rfl BA7 rfl (by kernel_rfl) (one3 rfl rfl rfl) fun w5 hg5 BN5 => ?_
      replace BA8 := BA8.grown hg5 (by omega)
      replace bb := bb.trans ((Below.refl _ _).grown hg5 bb.size (fun g hg => by injection hg with hg; omega))
      have hsz5 := bb.size
      replace BA7 : Blk w5 (g80_6) _ #[.bool false, .slice none 0 0, .slice none 0 0] := BN5
      refine ops_store (i := 9) rfl rfl rfl rfl rfl rfl (cells := [.bool false, .slice none 0 0, .slice none 0 0]) rfl BA8 rfl (by kernel_rfl) (one3 rfl rfl rfl) fun w6 hg6 BN6 => ?_
      replace BA7 := BA7.grown hg6 (by omega)
      replace bb := bb.trans ((Below.refl _ _).grown hg6 bb.size (fun g hg => by injection hg with hg; omega))
      have hsz6 := bb.size
      replace BA8 : Blk w6 (g80_7) _ #[.bool false, .slice none 0 0, .slice none 0 0] := BN6
      refine ops_assign (i := 10) (.int .i64 9) rfl rfl rfl rfl rfl fun b hbf => ?_
      simp only [Act.put, List.setIfInBounds_toArray, List.set_cons_zero, List.set_cons_succ] at hbf
      subst hbf
      refine ops_done ?_
      go_wp2_with fail
      refine (works10_any _).mono ?_
      rintro e w9 ⟨rfl, b9⟩
      have bb9 := bb.trans (b9.mono bb.size)
      go_wp2
      go_ret
      exact ⟨rfl, bb9⟩
  · have hne : qs ≠ [] := hq0
    clear hq0
    have hln : 0 < qs.length := List.length_pos_iff.2 hne
    obtain ⟨gV_, oV_, cV_, rfl, _, _, hmV_⟩ := hV.place hne
    obtain ⟨gU_, oU_, cU_, rfl, _, _, hmU_⟩ := hU.place hne
    have hneS : ss ≠ [] := List.length_pos_iff.1 (by omega)
    have hneR : runq qs ≠ [] := List.length_pos_iff.1 (by rw [runq_len]; omega)
    obtain ⟨gS_, oS_, cS_, rfl, _, _, hmS_⟩ := hS.place hneS
    obtain ⟨gR_, oR_, cR_, rfl, _, _, hmR_⟩ := hR.place hneR
    have HSL := Lib.hid hsl
    rw [hsl] at hS ⊢
    rw [runq_len] at hR ⊢
    clear hsl hmV_ hmU_ hmS_ hmR_
    obtain ⟨LO, hLO⟩ : ∃ LO, LO = leastq qs := ⟨_, rfl⟩
    obtain ⟨HI, hHI⟩ : ∃ HI, HI = greatq qs := ⟨_, rfl⟩
    have lLO : lenQ LO 2 := by rw [hLO]; exact hq2 _ (leastq_mem hne)
    have lHI : lenQ HI 2 := by rw [hHI]; exact hq2 _ (greatq_mem hne)
    have lz0 : lenQ (0 : Rat) 2 := ⟨by show lenZ 0 ≤ _; rw [lenZ_zero]; omega, digs_len_le (k := 2) (by omega) (by decide +kernel)⟩
    have HLO := Lib.hid hLO
    have HHI := Lib.hid hHI
    clear hLO hHI
    have ltV3 := hV.lt hne
    have ltU3 := hU.lt hne
    have ltS3 := hS.lt hneS
    have ltR3 := hR.lt hneR
    go_upto_region 3 with (fail)
    refine flowp 8 [Pd.eq (.slice (some ⟨gV_, oV_, none⟩) qs.length cV_), pq2 (LO) (HI) 0, pq2 (LO) (HI) 0, pqn (LO), pqn (HI), Pd.eq (.int .i64 0), pn 28 #[.bool false, .slice none 0 0, .slice none 0 0] w3.heap.size, pn 28 #[.bool false, .slice none 0 0, .slice none 0 0] w3.heap.size] (by kernel_rfl) ?ob81 ?done81
    case ob81 =>
      refine And.intro (ob_move rfl (wt_none rfl) (ev_far rfl rfl) (fun _ _ h => h)) ?_
      refine And.intro (ob_call1 rfl Tryz.func37 (by kernel_rfl) (wt_none rfl) (ev_dep (j := 0) (by kernel_rfl) rfl rfl) (fun w2 u0 hb h0 => by obtain rfl := h0; exact (HLO.out ▸ HHI.out ▸ fbounds_ok _ qs _ (hV.below hb) hne ⟨hlen, HLQ.out⟩).mono fun e w3 h => RetQ2.pd h)) ?_
      refine And.intro (ob_move rfl (wt_none rfl) (ev_dep (j := 1) (by kernel_rfl) rfl rfl) (fun _ _ h => h)) ?_
      refine And.intro (ob_extract rfl (wt_none rfl) (ev_dep (j := 2) (by kernel_rfl) rfl rfl) (fun w2 u hu => by obtain ⟨v, u, rfl, q1, q2⟩ := hu; exact ⟨v, rfl, q1⟩)) ?_
      refine And.intro (ob_extract rfl (wt_none rfl) (ev_dep (j := 2) (by kernel_rfl) rfl rfl) (fun w2 u hu => by obtain ⟨v, u, rfl, q1, q2⟩ := hu; exact ⟨u, rfl, q2⟩)) ?_
      refine And.intro (ob_extract rfl (wt_none rfl) (ev_dep (j := 2) (by kernel_rfl) rfl rfl) (fun w2 u hu => by obtain ⟨v, u, rfl, q1, q2⟩ := hu; exact ⟨_, rfl, rfl⟩)) ?_
      refine And.intro (ob_alloc (z := .agg #[.bool false, .slice none 0 0, .slice none 0 0]) rfl rfl (fun _ => by kernel_rfl) (fun _ _ hB h => ⟨_, rfl, hB, h⟩)) ?_
      refine And.intro (ob_alloc (z := .agg #[.bool false, .slice none 0 0, .slice none 0 0]) rfl rfl (fun _ => by kernel_rfl) (fun _ _ hB h => ⟨_, rfl, hB, h⟩)) ?_
      trivial
    case done81 =>
      refine fun w4 hb4 v0 h0 v1 h1 v2 h2 v3 h3 v4 h4 v5 h5 v6 h6 d6 v7 h7 d7 b hbf => ?_
      obtain rfl := h0; obtain rfl := h5
      clear h1
      clear h2
      have q3 := h3
      have q4 := h4
      obtain ⟨g81_6, rfl, hg6, B6⟩ := h6
      obtain ⟨g81_7, rfl, hg7, B7⟩ := h7
      simp only [Act.put, List.setIfInBounds_toArray, List.set_cons_zero, List.set_cons_succ] at hbf
      subst hbf
      replace hV := hV.below hb4
      replace hU := hU.below hb4
      replace hS := hS.below hb4
      replace hR := hR.below hb4
      replace bb := bb.trans (hb4.mono bb.size)
      have hsz4 := bb.size
      have BA7 := B6
      have BA8 := B7
      have hne6_7 : g81_6 ≠ g81_7 := fun e => d7 (.pointer (some ⟨g81_6, 0, none⟩)) (by simp) (by rw [e])
      obtain ⟨u3, t3, rfl, q3, d3⟩ := q3
      obtain ⟨Alo, clo, rfl, _⟩ := id q3
      obtain ⟨Dlo, elo, rfl, _⟩ := id d3
      obtain ⟨u4, t4, rfl, q4, d4⟩ := q4
      obtain ⟨Ahi, chi, rfl, _⟩ := id q4
      obtain ⟨Dhi, ehi, rfl, _⟩ := id d4
      refine ops_store (i := 8) rfl rfl rfl rfl rfl rfl (cells := [.bool (ngB (LO).num), .slice Alo (digs 4294967296 (LO).num.natAbs).length clo, .slice Dlo (digs 4294967296 (LO).den).length elo]) rfl BA7 rfl (by kernel_rfl) (one3 rfl rfl rfl) fun w5 hg5 BN5 => ?_
      replace hV := hV.off BA7 no_ints3 hg5 (fun e => by have e2 : gV_ = g81_6 := Option.some.inj e; omega)
      replace hU := hU.off BA7 no_ints3 hg5 (fun e => by have e2 : gU_ = g81_6 := Option.some.inj e; omega)
      replace hS := hS.off BA7 no_ints3 hg5 (fun e => by have e2 : gS_ = g81_6 := Option.some.inj e; omega)
      replace hR := hR.off BA7 no_ints3 hg5 (fun e => by have e2 : gR_ = g81_6 := Option.some.inj e; omega)
      replace q4 := off q4 BA7 no_ints3 hg5
      replace d4 := off d4 BA7 no_ints3 hg5
      replace q3 := off q3 BA7 no_ints3 hg5
      replace d3 := off d3 BA7 no_ints3 hg5
      replace BA8 := BA8.grown hg5 (by omega)
      replace bb := bb.trans ((Below.refl _ _).grown hg5 bb.size (fun g hg => by injection hg with hg; omega))
      have hsz5 := bb.size
      have Blo : Blk w5 (g81_6) _ _ := BN5
      have klos := q3
      have klod := d3
      have kloz : IsZ w5 (.agg #[.bool (ngB (LO).num), .slice Alo (digs 4294967296 (LO).num.natAbs).length clo]) ((LO).num) := ⟨_, rfl, klos⟩
      have klo : IsQ w5 (.agg #[.bool (ngB (LO).num), .slice Alo (digs 4294967296 (LO).num.natAbs).length clo, .slice Dlo (digs 4294967296 (LO).den).length elo]) (LO) := ⟨_, _, rfl, klos, klod⟩
      refine ops_store (i := 9) rfl rfl rfl rfl rfl rfl (cells := [.bool (ngB (HI).num), .slice Ahi (digs 4294967296 (HI).num.natAbs).length chi, .slice Dhi (digs 4294967296 (HI).den).length ehi]) rfl BA8 rfl (by kernel_rfl) (one3 rfl rfl rfl) fun w6 hg6 BN6 => ?_
      replace hV := hV.off BA8 no_ints3 hg6 (fun e => by have e2 : gV_ = g81_7 := Option.some.inj e; omega)
      replace hU := hU.off BA8 no_ints3 hg6 (fun e => by have e2 : gU_ = g81_7 := Option.some.inj e; omega)
      replace hS := hS.off BA8 no_ints3 hg6 (fun e => by have e2 : gS_ = g81_7 := Option.some.inj e; omega)
      replace hR := hR.off BA8 no_ints3 hg6 (fun e => by have e2 : gR_ = g81_7 := Option.some.inj e; omega)
      replace q4 := off q4 BA8 no_ints3 hg6
      replace d4 := off d4 BA8 no_ints3 hg6
      replace klos := off klos BA8 no_ints3 hg6
      replace klod := off klod BA8 no_ints3 hg6
      replace kloz : IsZ w6 (.agg #[.bool (ngB (LO).num), .slice Alo (digs 4294967296 (LO).num.natAbs).length clo]) ((LO).num) := ⟨_, rfl, klos⟩
      replace klo : IsQ w6 (.agg #[.bool (ngB (LO).num), .slice Alo (digs 4294967296 (LO).num.natAbs).length clo, .slice Dlo (digs 4294967296 (LO).den).length elo]) (LO) := ⟨_, _, rfl, klos, klod⟩
      replace Blo := Blo.grown hg6 (by omega)
      replace bb := bb.trans ((Below.refl _ _).grown hg6 bb.size (fun g hg => by injection hg with hg; omega))
      have hsz6 := bb.size
      have Bhi : Blk w6 (g81_7) _ _ := BN6
      have khis := q4
      have khid := d4
      have khiz : IsZ w6 (.agg #[.bool (ngB (HI).num), .slice Ahi (digs 4294967296 (HI).num.natAbs).length chi]) ((HI).num) := ⟨_, rfl, khis⟩
      have khi : IsQ w6 (.agg #[.bool (ngB (HI).num), .slice Ahi (digs 4294967296 (HI).num.natAbs).length chi, .slice Dhi (digs 4294967296 (HI).den).length ehi]) (HI) := ⟨_, _, rfl, khis, khid⟩
      refine ops_assign (i := 10) (.int .i64 0) rfl rfl rfl rfl rfl fun b hbf => ?_
      simp only [Act.put, List.setIfInBounds_toArray, List.set_cons_zero, List.set_cons_succ] at hbf
      subst hbf
      refine ops_done ?_
      have hn0 : (((qs.length : Nat) : Int) == 0) = false := by rw [beq_eq_false_iff_ne]; omega
      have ltV6 := hV.lt hne
      have ltU6 := hU.lt hne
      have ltS6 := hS.lt hneS
      have ltR6 := hR.lt hneR
      go_upto_region 8 with (fail)
      have lt6_7 := Blk.lt Blo
      have lt6_8 := Blk.lt Bhi
      refine flowp 2 [pp ((0 : Rat)), pn 41 #[.bool false, .slice none 0 0, .slice none 0 0] w6.heap.size] (by kernel_rfl) ?ob82 ?done82
      case ob82 =>
        refine And.intro (ob_call2 rfl Tryz.func21 (by kernel_rfl) (wt_none rfl) (ev_const _) (ev_const _) (fun w2 u0 u1 hb h0 h1 => by obtain rfl := h0; obtain rfl := h1; exact (qnum_any 0 1 _ 1 rfl (by omega) (by omega) (by omega) (by omega)).mono fun e w3 h => RetPF.pd ((show mkRat 0 1 = (0 : Rat) by decide +kernel) ▸ h))) ?_
        refine And.intro (ob_alloc (z := .agg #[.bool false, .slice none 0 0, .slice none 0 0]) rfl rfl (fun _ => by kernel_rfl) (fun _ _ hB h => ⟨_, rfl, hB, h⟩)) ?_
        trivial
      case done82 =>
        refine fun w7 hb7 v0 h0 v1 h1 d1 b hbf => ?_
        have q0 := h0
        obtain ⟨g82_1, rfl, hg1, B1⟩ := h1
        simp only [Act.put, List.setIfInBounds_toArray, List.set_cons_zero, List.set_cons_succ] at hbf
        subst hbf
        replace Blo := Blo.below hb7
        replace klos := klos.below hb7
        replace klod := klod.below hb7
        replace kloz := kloz.below hb7
        replace klo := klo.below hb7
        replace Bhi := Bhi.below hb7
        replace khis := khis.below hb7
        replace khid := khid.below hb7
        replace khiz := khiz.below hb7
        replace khi := khi.below hb7
        replace hV := hV.below hb7
        replace hU := hU.below hb7
        replace hS := hS.below hb7
        replace hR := hR.below hb7
        replace bb := bb.trans (hb7.mono bb.size)
        have hsz7 := bb.size
        have BA10 := B1
        obtain ⟨u0, t0, rfl, q0, d0⟩ := q0
        obtain ⟨Asm, csm, rfl, _⟩ := id q0
        obtain ⟨Dsm, esm, rfl, _⟩ := id d0
        refine ops_store (i := 2) rfl rfl rfl rfl rfl rfl (cells := [.bool (ngB ((0 : Rat)).num), .slice Asm (digs 10000 ((0 : Rat)).num.natAbs).length csm, .slice Dsm (digs 10000 ((0 : Rat)).den).length esm]) rfl BA10 rfl (by kernel_rfl) (one3 rfl rfl rfl) fun w8 hg8 BN8 => ?_
        replace hV := hV.off BA10 no_ints3 hg8 (fun e => by have e2 : gV_ = g82_1 := Option.some.inj e; omega)
        replace hU := hU.off BA10 no_ints3 hg8 (fun e => by have e2 : gU_ = g82_1 := Option.some.inj e; omega)
        replace hS := hS.off BA10 no_ints3 hg8 (fun e => by have e2 : gS_ = g82_1 := Option.some.inj e; omega)
        replace hR := hR.off BA10 no_ints3 hg8 (fun e => by have e2 : gR_ = g82_1 := Option.some.inj e; omega)
        replace q0 := off q0 BA10 no_ints3 hg8
        replace d0 := off d0 BA10 no_ints3 hg8
        replace klos := off klos BA10 no_ints3 hg8
        replace klod := off klod BA10 no_ints3 hg8
        replace kloz : IsZ w8 (.agg #[.bool (ngB (LO).num), .slice Alo (digs 4294967296 (LO).num.natAbs).length clo]) ((LO).num) := ⟨_, rfl, klos⟩
        replace klo : IsQ w8 (.agg #[.bool (ngB (LO).num), .slice Alo (digs 4294967296 (LO).num.natAbs).length clo, .slice Dlo (digs 4294967296 (LO).den).length elo]) (LO) := ⟨_, _, rfl, klos, klod⟩
        replace Blo := Blo.grown hg8 (by omega)
        replace khis := off khis BA10 no_ints3 hg8
        replace khid := off khid BA10 no_ints3 hg8
        replace khiz : IsZ w8 (.agg #[.bool (ngB (HI).num), .slice Ahi (digs 4294967296 (HI).num.natAbs).length chi]) ((HI).num) := ⟨_, rfl, khis⟩
        replace khi : IsQ w8 (.agg #[.bool (ngB (HI).num), .slice Ahi (digs 4294967296 (HI).num.natAbs).length chi, .slice Dhi (digs 4294967296 (HI).den).length ehi]) (HI) := ⟨_, _, rfl, khis, khid⟩
        replace Bhi := Bhi.grown hg8 (by omega)
        replace bb := bb.trans ((Below.refl _ _).grown hg8 bb.size (fun g hg => by injection hg with hg; omega))
        have hsz8 := bb.size
        have Bsm : Blk w8 (g82_1) _ _ := BN8
        have ksms := q0
        have ksmd := d0
        have ksmz : IsR w8 (.agg #[.bool (ngB ((0 : Rat)).num), .slice Asm (digs 10000 ((0 : Rat)).num.natAbs).length csm]) (((0 : Rat)).num) := ⟨_, rfl, ksms⟩
        have ksm : IsP w8 (.agg #[.bool (ngB ((0 : Rat)).num), .slice Asm (digs 10000 ((0 : Rat)).num.natAbs).length csm, .slice Dsm (digs 10000 ((0 : Rat)).den).length esm]) ((0 : Rat)) := ⟨_, _, rfl, ksms, ksmd⟩
        refine ops_done ?_
        go_wp2
        go_loopw [11] (fun v11 wr => ∃ k : Nat, k ≤ qs.length ∧ HoldP wr g82_1 (sumq (qs.take k)) ∧ HoldQ wr g81_6 LO ∧ HoldQ wr g81_7 HI ∧ SlF .u64 4294967296 wr (.slice (some ⟨gV_, oV_, none⟩) qs.length cV_) qs ∧ SlF .i64 10000 wr (.slice (some ⟨gU_, oU_, none⟩) qs.length cU_) qs ∧ SlF .u64 4294967296 wr (.slice (some ⟨gS_, oS_, none⟩) qs.length cS_) ss ∧ SlF .u64 4294967296 wr (.slice (some ⟨gR_, oR_, none⟩) qs.length cR_) (runq qs) ∧ Below w.heap.size w wr ∧ v11 = .int .i64 (k : Int)) (fun v11 _ => qs.length - (RowKit.intOf v11).toNat)
        case atStart => exact ⟨0, by omega, ⟨_, _, Bsm, ksms, ksmd⟩, ⟨_, _, Blo, klos, klod⟩, ⟨_, _, Bhi, khis, khid⟩, hV, hU, hS, hR, bb, rfl⟩
        case round =>
          obtain ⟨k, hk, hH1, hH2, hH3, hV_, hU_, hS_, hR_, hbw, rfl⟩ := hrel
          clear Bsm ksms ksmd ksmz ksm Blo klos klod kloz klo Bhi khis khid khiz khi hU hV hS hR bb
          have hV := hV_
          have hU := hU_
          have hS := hS_
          have hR := hR_
          have bb := hbw
          clear hV_ hU_ hS_ hR_ hbw
          have hszr := bb.size
          obtain ⟨t, ht⟩ : ∃ t, t = sumq (qs.take k) := ⟨_, rfl⟩
          have lt_ : lenQ t 25 := by rw [ht]; exact (lenQ_sumq (m := 2) fun x hx => hq2 x (List.mem_of_mem_take hx)).mono (by rw [List.length_take]; omega)
          rw [← ht] at hH1
          have HT := Lib.hid ht
          clear ht
          obtain ⟨usm, tsm, Bsm, ksms, ksmd⟩ := hH1
          obtain ⟨Asm, csm, rfl, _⟩ := id ksms
          obtain ⟨Dsm, esm, rfl, _⟩ := id ksmd
          have ksmz : IsR wr (.agg #[.bool (ngB (t).num), .slice Asm (digs 10000 (t).num.natAbs).length csm]) ((t).num) := ⟨_, rfl, ksms⟩
          have ksm : IsP wr (.agg #[.bool (ngB (t).num), .slice Asm (digs 10000 (t).num.natAbs).length csm, .slice Dsm (digs 10000 (t).den).length esm]) (t) := ⟨_, _, rfl, ksms, ksmd⟩
          obtain ⟨ulo, tlo, Blo, klos, klod⟩ := hH2
          obtain ⟨Alo, clo, rfl, _⟩ := id klos
          obtain ⟨Dlo, elo, rfl, _⟩ := id klod
          have kloz : IsZ wr (.agg #[.bool (ngB (LO).num), .slice Alo (digs 4294967296 (LO).num.natAbs).length clo]) ((LO).num) := ⟨_, rfl, klos⟩
          have klo : IsQ wr (.agg #[.bool (ngB (LO).num), .slice Alo (digs 4294967296 (LO).num.natAbs).length clo, .slice Dlo (digs 4294967296 (LO).den).length elo]) (LO) := ⟨_, _, rfl, klos, klod⟩
          obtain ⟨uhi, thi, Bhi, khis, khid⟩ := hH3
          obtain ⟨Ahi, chi, rfl, _⟩ := id khis
          obtain ⟨Dhi, ehi, rfl, _⟩ := id khid
          have khiz : IsZ wr (.agg #[.bool (ngB (HI).num), .slice Ahi (digs 4294967296 (HI).num.natAbs).length chi]) ((HI).num) := ⟨_, rfl, khis⟩
          have khi : IsQ wr (.agg #[.bool (ngB (HI).num), .slice Ahi (digs 4294967296 (HI).num.natAbs).length chi, .slice Dhi (digs 4294967296 (HI).den).length ehi]) (HI) := ⟨_, _, rfl, khis, khid⟩
          by_cases hlt : k < qs.length
          · obtain ⟨x, hx⟩ : ∃ x, qs[k]? = some x := ⟨_, List.getElem?_eq_getElem hlt⟩
            have lx : lenQ x 2 := hq2 _ (List.mem_of_getElem? hx)
            have hY := runq_at hlt
            obtain ⟨Y, hY2⟩ : ∃ Y, Y = sumq (qs.take (k + 1)) := ⟨_, rfl⟩
            have lY : lenQ Y 25 := by rw [hY2]; exact (lenQ_sumq (m := 2) fun x hx => hq2 x (List.mem_of_mem_take hx)).mono (by rw [List.length_take]; omega)
            have HYT : Hid (Y = (t + x)) := by show _ = _; rw [hY2, take_snoc hx, sumq_snoc, HT.out]
            have HY : Hid ((runq qs)[k]? = some Y) := by show _ = _; rw [hY2]; exact hY
            have HYS := Lib.hid hY2
            have HX := Lib.hid hx
            have hlt2 : k < ss.length := by have := HSL.out; omega
            obtain ⟨b, hb_⟩ : ∃ b, ss[k]? = some b := ⟨_, List.getElem?_eq_getElem hlt2⟩
            have HBK := Lib.hid hb_
            have lb : lenQ b 2 := hq2 _ (HSO.out.1.mem_iff.1 (List.mem_of_getElem? hb_))
            clear hx hY hY2 hb_
            obtain ⟨ue1, te1, hlte1, ze10, ze11, ze12, ze1s, ze1d⟩ := hU.at2 HX.out
            obtain ⟨Ae1, ce1, rfl, _⟩ := id ze1s
            obtain ⟨De1, ee1, rfl, _⟩ := id ze1d
            have ze1 : IsP wr (.agg #[.bool (ngB (x).num), .slice Ae1 (digs 10000 (x).num.natAbs).length ce1, .slice De1 (digs 10000 (x).den).length ee1]) (x) := ⟨_, _, rfl, ze1s, ze1d⟩
            go_upto_region 12 with (fail)
            refine flow 6 [Pd.eq (.agg #[.bool (ngB (t).num), .slice Asm (digs 10000 (t).num.natAbs).length csm, .slice Dsm (digs 10000 (t).den).length esm]), Pd.eq (.slice (some ⟨gU_, oU_, none⟩) qs.length cU_), Pd.eq (.int .i64 (k : Int)), Pd.eq (.pointer (some ⟨gU_, oU_ + k * 3, none⟩)), Pd.eq (.agg #[.bool (ngB (x).num), .slice Ae1 (digs 10000 (x).num.natAbs).length ce1, .slice De1 (digs 10000 (x).den).length ee1]), pp ((t + x))] (by kernel_rfl) (by kernel_rfl) ?ob83 ?done83
            case ob83 =>
              refine And.intro (ob_load rfl (wt_none rfl) (ev_far rfl rfl) (fun w2 hb => run_loadAll Tryz.underlying41 rfl (by kernel_rfl) (Bsm.drew.below hb)) (fun _ _ => rfl)) ?_
              refine And.intro (ob_move rfl (wt_none rfl) (ev_far rfl rfl) (fun _ _ h => h)) ?_
              refine And.intro (ob_move rfl (wt_none rfl) (ev_far rfl rfl) (fun _ _ h => h)) ?_
              refine And.intro (ob_indexAddr rfl (wt_none rfl) (ev_dep (j := 1) (by kernel_rfl) rfl rfl) (ev_dep (j := 2) (by kernel_rfl) rfl rfl) (fun _ _ _ hx hy => ⟨_, by rw [hx, hy]; exact index3 (k := k) Tryz.underlying29 (by kernel_rfl) hlte1 _, rfl⟩)) ?_
              refine And.intro (ob_load rfl (wt_none rfl) (ev_dep (j := 3) (by kernel_rfl) rfl rfl) (fun w2 hb => load3 Tryz.underlying41 rfl (by kernel_rfl) ((hb.cell (World.block_lt_of_cell? wr _ ze10)).trans ze10) ((hb.cell (World.block_lt_of_cell? wr _ ze11)).trans ze11) ((hb.cell (World.block_lt_of_cell? wr _ ze12)).trans ze12)) (fun _ _ => rfl)) ?_
              refine And.intro (ob_call2 rfl Tryz.func30 (by kernel_rfl) (wt_none rfl) (ev_dep (j := 0) (by kernel_rfl) rfl rfl) (ev_dep (j := 4) (by kernel_rfl) rfl rfl) (fun w2 u0 u1 hb h0 h1 => by obtain rfl := h0; obtain rfl := h1; exact (qadd_any _ _ _ _ _ (ksm.drew.below hb) (ze1.drew.below hb) (lt_.mono (by decide)) (lx.mono (by decide))).mono fun e w3 h => RetPF.pd h)) ?_
              trivial
            case done83 =>
              refine fun w9 hb9 v0 h0 v1 h1 v2 h2 v3 h3 v4 h4 v5 h5 b hbf => ?_
              obtain rfl := h0; obtain rfl := h1; obtain rfl := h2; obtain rfl := h3; obtain rfl := h4
              have q5 := h5
              simp only [Act.put, List.setIfInBounds_toArray, List.set_cons_zero, List.set_cons_succ] at hbf
              subst hbf
              replace Blo := Blo.below hb9
              replace klos := klos.below hb9
              replace klod := klod.below hb9
              replace kloz := kloz.below hb9
              replace klo := klo.below hb9
              replace Bhi := Bhi.below hb9
              replace khis := khis.below hb9
              replace khid := khid.below hb9
              replace khiz := khiz.below hb9
              replace khi := khi.below hb9
              replace Bsm := Bsm.below hb9
              replace ksms := ksms.below hb9
              replace ksmd := ksmd.below hb9
              replace ksmz := ksmz.below hb9
              replace ksm := ksm.below hb9
              replace hV := hV.below hb9
              replace hU := hU.below hb9
              replace hS := hS.below hb9
              replace hR := hR.below hb9
              replace bb := bb.trans (hb9.mono bb.size)
              have hsz9 := bb.size
              obtain ⟨u5, t5, rfl, q5, d5⟩ := q5
              obtain ⟨As2, cs2, rfl, _⟩ := id q5
              obtain ⟨Ds2, es2, rfl, _⟩ := id d5
              refine any_store (i := 6) (by kernel_rfl) rfl rfl rfl rfl rfl rfl (cells := [.bool (ngB ((t + x)).num), .slice As2 (digs 10000 ((t + x)).num.natAbs).length cs2, .slice Ds2 (digs 10000 ((t + x)).den).length es2]) rfl Bsm rfl (by kernel_rfl) (one3 rfl rfl rfl) fun w10 hg10 BN10 => ?_
              replace hV := hV.off Bsm no_ints3 hg10 (fun e => by have e2 : gV_ = g82_1 := Option.some.inj e; omega)
              replace hU := hU.off Bsm no_ints3 hg10 (fun e => by have e2 : gU_ = g82_1 := Option.some.inj e; omega)
              replace hS := hS.off Bsm no_ints3 hg10 (fun e => by have e2 : gS_ = g82_1 := Option.some.inj e; omega)
              replace hR := hR.off Bsm no_ints3 hg10 (fun e => by have e2 : gR_ = g82_1 := Option.some.inj e; omega)
              replace q5 := off q5 Bsm no_ints3 hg10
              replace d5 := off d5 Bsm no_ints3 hg10
              replace klos := off klos Bsm no_ints3 hg10
              replace klod := off klod Bsm no_ints3 hg10
              replace kloz : IsZ w10 (.agg #[.bool (ngB (LO).num), .slice Alo (digs 4294967296 (LO).num.natAbs).length clo]) ((LO).num) := ⟨_, rfl, klos⟩
              replace klo : IsQ w10 (.agg #[.bool (ngB (LO).num), .slice Alo (digs 4294967296 (LO).num.natAbs).length clo, .slice Dlo (digs 4294967296 (LO).den).length elo]) (LO) := ⟨_, _, rfl, klos, klod⟩
              replace Blo := Blo.grown hg10 (by omega)
              replace khis := off khis Bsm no_ints3 hg10
              replace khid := off khid Bsm no_ints3 hg10
              replace khiz : IsZ w10 (.agg #[.bool (ngB (HI).num), .slice Ahi (digs 4294967296 (HI).num.natAbs).length chi]) ((HI).num) := ⟨_, rfl, khis⟩
              replace khi : IsQ w10 (.agg #[.bool (ngB (HI).num), .slice Ahi (digs 4294967296 (HI).num.natAbs).length chi, .slice Dhi (digs 4294967296 (HI).den).length ehi]) (HI) := ⟨_, _, rfl, khis, khid⟩
              replace Bhi := Bhi.grown hg10 (by omega)
              replace bb := bb.trans ((Below.refl _ _).grown hg10 bb.size (fun g hg => by injection hg with hg; omega))
              have hsz10 := bb.size
              have Bs2 : Blk w10 (g82_1) _ _ := BN10
              have ks2s := q5
              have ks2d := d5
              have ks2z : IsR w10 (.agg #[.bool (ngB ((t + x)).num), .slice As2 (digs 10000 ((t + x)).num.natAbs).length cs2]) (((t + x)).num) := ⟨_, rfl, ks2s⟩
              have ks2 : IsP w10 (.agg #[.bool (ngB ((t + x)).num), .slice As2 (digs 10000 ((t + x)).num.natAbs).length cs2, .slice Ds2 (digs 10000 ((t + x)).den).length es2]) ((t + x)) := ⟨_, _, rfl, ks2s, ks2d⟩
              refine any_done (by kernel_rfl) ?_
              by_cases hk0 : k = 0
              · have HK0 : Hid (¬ (0 : Int) < (k : Int)) := by show ¬ _; omega
                clear hk0
                obtain ⟨ue2, te2, hlte2, ze20, ze21, ze22, ze2s, ze2d⟩ := hR.at2 HY.out
                obtain ⟨Ae2, ce2, rfl, _⟩ := id ze2s
                obtain ⟨De2, ee2, rfl, _⟩ := id ze2d
                have ze2 : IsQ w10 (.agg #[.bool (ngB (Y).num), .slice Ae2 (digs 4294967296 (Y).num.natAbs).length ce2, .slice De2 (digs 4294967296 (Y).den).length ee2]) (Y) := ⟨_, _, rfl, ze2s, ze2d⟩
                go_upto_region 13 with (fail)
                refine flow 27 [Pd.eq (.slice (some ⟨gR_, oR_, none⟩) qs.length cR_), Pd.eq (.int .i64 (k : Int)), Pd.eq (.pointer (some ⟨gR_, oR_ + k * 3, none⟩)), Pd.eq (.agg #[.bool (ngB (Y).num), .slice Ae2 (digs 4294967296 (Y).num.natAbs).length ce2, .slice De2 (digs 4294967296 (Y).den).length ee2]), Pd.eq (.agg #[.bool (ngB ((t + x)).num), .slice As2 (digs 10000 ((t + x)).num.natAbs).length cs2, .slice Ds2 (digs 10000 ((t + x)).den).length es2]), pqn ((t + x)), Pd.eq (.bool true), Pd.eq (.bool false), Pd.eq (.bool false), Pd.eq (.int .i64 (k : Int)), Pd.eq (.bool false), Pd.eq (.bool false), Pd.any, Pd.any, Pd.any, Pd.any, Pd.any, Pd.any, Pd.any, Pd.any, Pd.any, Pd.any, Pd.any, Pd.any, Pd.any, Pd.eq (.bool false), Pd.eq (.bool false)] (by kernel_rfl) (by kernel_rfl) ?ob84 ?done84
                case ob84 =>
                  refine And.intro (ob_move rfl (wt_none rfl) (ev_far rfl rfl) (fun _ _ h => h)) ?_
                  refine And.intro (ob_move rfl (wt_none rfl) (ev_far rfl rfl) (fun _ _ h => h)) ?_
                  refine And.intro (ob_indexAddr rfl (wt_none rfl) (ev_dep (j := 0) (by kernel_rfl) rfl rfl) (ev_dep (j := 1) (by kernel_rfl) rfl rfl) (fun _ _ _ hx hy => ⟨_, by rw [hx, hy]; exact index3 (k := k) Tryz.underlying22 (by kernel_rfl) hlte2 _, rfl⟩)) ?_
                  refine And.intro (ob_load rfl (wt_none rfl) (ev_dep (j := 2) (by kernel_rfl) rfl rfl) (fun w2 hb => load3 Tryz.underlying28 rfl (by kernel_rfl) ((hb.cell (World.block_lt_of_cell? w10 _ ze20)).trans ze20) ((hb.cell (World.block_lt_of_cell? w10 _ ze21)).trans ze21) ((hb.cell (World.block_lt_of_cell? w10 _ ze22)).trans ze22)) (fun _ _ => rfl)) ?_
                  refine And.intro (ob_load rfl (wt_none rfl) (ev_far rfl rfl) (fun w2 hb => run_loadAll Tryz.underlying41 rfl (by kernel_rfl) (Bs2.drew.below hb)) (fun _ _ => rfl)) ?_
                  refine And.intro (ob_call1 rfl Tryz.func13 (by kernel_rfl) (wt_none rfl) (ev_dep (j := 4) (by kernel_rfl) rfl rfl) (fun w2 u0 hb h0 => by obtain rfl := h0; exact (qback_any _ _ _ (ks2.drew.below hb) ((lenQ_add lt_ lx).mono (by decide))).mono fun e w3 h => RetQn.pd (RetQ.n h))) ?_
                  refine And.intro (ob_call2 rfl Tryz.func11 (by kernel_rfl) (wt_none rfl) (ev_dep (j := 3) (by kernel_rfl) rfl rfl) (ev_dep (j := 5) (by kernel_rfl) rfl rfl) (fun w2 u0 u1 hb h0 h1 => by obtain rfl := h0; exact (qsame_eq _ _ (Y) ((t + x)) _ (ze2.drew.below hb) h1 HYT.out).mono fun e w3 h => RetV.pd h)) ?_
                  refine And.intro (ob_un rfl (wt_none rfl) (ev_dep (j := 6) (by kernel_rfl) rfl rfl) (fun _ => un_not _ _) (fun _ => rfl)) ?_
                  refine And.intro (ob_move rfl (wt_none rfl) (ev_dep (j := 7) (by kernel_rfl) rfl rfl) (fun _ _ h => h)) ?_
                  refine And.intro (ob_move rfl (wt_dep (c := false) (b := false) (g := 8) rfl (by kernel_rfl) rfl rfl rfl (by exact fun _ _ h => h)) (ev_far rfl rfl) (fun _ _ h => h)) ?_
                  refine And.intro (ob_bin rfl (wt_dep (c := false) (b := false) (g := 8) rfl (by kernel_rfl) rfl rfl rfl (by exact fun _ _ h => h)) (ev_dep (j := 9) (by kernel_rfl) rfl rfl) (ev_const _) (fun _ _ _ hx hy => ⟨.bool false, by rw [hx, hy, bin_gtr_int, decide_eq_false HK0.out], rfl⟩)) ?_
                  refine And.intro (ob_move rfl (wt_dep (c := false) (b := false) (g := 8) rfl (by kernel_rfl) rfl rfl rfl (by exact fun _ _ h => h)) (ev_dep (j := 10) (by kernel_rfl) rfl rfl) (fun _ _ h => h)) ?_
                  refine And.intro (ob_not (wt_dep (c := false) (b := true) (g := 11) rfl (by kernel_rfl) rfl rfl rfl (by exact fun _ _ h => h)) (fun _ => trivial) rfl) ?_
                  refine And.intro (ob_not (wt_dep (c := false) (b := true) (g := 11) rfl (by kernel_rfl) rfl rfl rfl (by exact fun _ _ h => h)) (fun _ => trivial) rfl) ?_
                  refine And.intro (ob_not (wt_dep (c := false) (b := true) (g := 11) rfl (by kernel_rfl) rfl rfl rfl (by exact fun _ _ h => h)) (fun _ => trivial) rfl) ?_
                  refine And.intro (ob_not (wt_dep (c := false) (b := true) (g := 11) rfl (by kernel_rfl) rfl rfl rfl (by exact fun _ _ h => h)) (fun _ => trivial) rfl) ?_
                  refine And.intro (ob_not (wt_dep (c := false) (b := true) (g := 11) rfl (by kernel_rfl) rfl rfl rfl (by exact fun _ _ h => h)) (fun _ => trivial) rfl) ?_
                  refine And.intro (ob_not (wt_dep (c := false) (b := true) (g := 11) rfl (by kernel_rfl) rfl rfl rfl (by exact fun _ _ h => h)) (fun _ => trivial) rfl) ?_
                  refine And.intro (ob_not (wt_dep (c := false) (b := true) (g := 11) rfl (by kernel_rfl) rfl rfl rfl (by exact fun _ _ h => h)) (fun _ => trivial) rfl) ?_
                  refine And.intro (ob_not (wt_dep (c := false) (b := true) (g := 11) rfl (by kernel_rfl) rfl rfl rfl (by exact fun _ _ h => h)) (fun _ => trivial) rfl) ?_
                  refine And.intro (ob_not (wt_dep (c := false) (b := true) (g := 11) rfl (by kernel_rfl) rfl rfl rfl (by exact fun _ _ h => h)) (fun _ => trivial) rfl) ?_
                  refine And.intro (ob_not (wt_dep (c := false) (b := true) (g := 11) rfl (by kernel_rfl) rfl rfl rfl (by exact fun _ _ h => h)) (fun _ => trivial) rfl) ?_
                  refine And.intro (ob_not (wt_dep (c := false) (b := true) (g := 11) rfl (by kernel_rfl) rfl rfl rfl (by exact fun _ _ h => h)) (fun _ => trivial) rfl) ?_
                  refine And.intro (ob_not (wt_dep (c := false) (b := true) (g := 11) rfl (by kernel_rfl) rfl rfl rfl (by exact fun _ _ h => h)) (fun _ => trivial) rfl) ?_
                  refine And.intro (ob_not (wt_dep (c := false) (b := true) (g := 11) rfl (by kernel_rfl) rfl rfl rfl (by exact fun _ _ h => h)) (fun _ => trivial) rfl) ?_
                  refine And.intro (ob_pick (b := false) rfl (wt_dep (c := false) (b := false) (g := 8) rfl (by kernel_rfl) rfl rfl rfl (by exact fun _ _ h => h)) (ev_dep (j := 11) (by kernel_rfl) rfl rfl) (ev_const _) (fun _ _ h => h)) ?_
                  refine And.intro (ob_pick (b := false) rfl (wt_none rfl) (ev_dep (j := 8) (by kernel_rfl) rfl rfl) (ev_dep (j := 25) (by kernel_rfl) rfl rfl) (fun _ _ h => h)) ?_
                  trivial
                case done84 =>
                  refine fun w11 hb11 v0 h0 v1 h1 v2 h2 v3 h3 v4 h4 v5 h5 v6 h6 v7 h7 v8 h8 v9 h9 v10 h10 v11 h11 v12 h12 v13 h13 v14 h14 v15 h15 v16 h16 v17 h17 v18 h18 v19 h19 v20 h20 v21 h21 v22 h22 v23 h23 v24 h24 v25 h25 v26 h26 b hbf => ?_
                  obtain rfl := h0; obtain rfl := h1; obtain rfl := h2; obtain rfl := h3; obtain rfl := h4; obtain rfl := h6; obtain rfl := h7; obtain rfl := h8; obtain rfl := h9; obtain rfl := h10; obtain rfl := h11; obtain rfl := h25; obtain rfl := h26
                  have q5 := h5
                  clear h12
                  clear h13
                  clear h14
                  clear h15
                  clear h16
                  clear h17
                  clear h18
                  clear h19
                  clear h20
                  clear h21
                  clear h22
                  clear h23
                  clear h24
                  simp only [Act.put, List.setIfInBounds_toArray, List.set_cons_zero, List.set_cons_succ] at hbf
                  subst hbf
                  replace Blo := Blo.below hb11
                  replace klos := klos.below hb11
                  replace klod := klod.below hb11
                  replace kloz := kloz.below hb11
                  replace klo := klo.below hb11
                  replace Bhi := Bhi.below hb11
                  replace khis := khis.below hb11
                  replace khid := khid.below hb11
                  replace khiz := khiz.below hb11
                  replace khi := khi.below hb11
                  replace Bs2 := Bs2.below hb11
                  replace ks2s := ks2s.below hb11
                  replace ks2d := ks2d.below hb11
                  replace ks2z := ks2z.below hb11
                  replace ks2 := ks2.below hb11
                  replace hV := hV.below hb11
                  replace hU := hU.below hb11
                  replace hS := hS.below hb11
                  replace hR := hR.below hb11
                  replace bb := bb.trans (hb11.mono bb.size)
                  have hsz11 := bb.size
                  refine any_done (by kernel_rfl) ?_
                  go_wp2
                  go_loopw [12, 13] (fun v12 v13 wr => ∃ j : Nat, j ≤ qs.length ∧ Below w11.heap.size w11 wr ∧ v12 = .int .i64 ((((ss.take j).count x : Nat) : Int) - (((qs.take j).count x : Nat) : Int)) ∧ v13 = .int .i64 (j : Int)) (fun _ v13 _ => qs.length - (RowKit.intOf v13).toNat)
                  case atStart => exact ⟨0, by omega, Below.refl _ _, by simp, rfl⟩
                  case round =>
                    obtain ⟨j, hj, hbj, rfl, rfl⟩ := hrel
                    replace Blo := Blo.below hbj
                    replace klos := klos.below hbj
                    replace klod := klod.below hbj
                    replace kloz := kloz.below hbj
                    replace klo := klo.below hbj
                    replace Bhi := Bhi.below hbj
                    replace khis := khis.below hbj
                    replace khid := khid.below hbj
                    replace khiz := khiz.below hbj
                    replace khi := khi.below hbj
                    replace Bs2 := Bs2.below hbj
                    replace ks2s := ks2s.below hbj
                    replace ks2d := ks2d.below hbj
                    replace ks2z := ks2z.below hbj
                    replace ks2 := ks2.below hbj
                    replace hV := hV.below hbj
                    replace hU := hU.below hbj
                    replace hS := hS.below hbj
                    replace hR := hR.below hbj
                    replace bb := bb.trans (hbj.mono bb.size)
                    have hsz12 := bb.size
                    have hbJ := hbj
                    obtain ⟨n1, hn1⟩ : ∃ n, n = (ss.take j).count x := ⟨_, rfl⟩
                    obtain ⟨n2, hn2⟩ : ∃ n, n = (qs.take j).count x := ⟨_, rfl⟩
                    have hc1 : n1 ≤ j := by rw [hn1]; exact Nat.le_trans List.count_le_length (by rw [List.length_take]; omega)
                    have hc2 : n2 ≤ j := by rw [hn2]; exact Nat.le_trans List.count_le_length (by rw [List.length_take]; omega)
                    rw [← hn1, ← hn2]
                    have HC1 := Lib.hid hn1
                    have HC2 := Lib.hid hn2
                    clear hn1 hn2
                    by_cases hjl : j < qs.length
                    · have hjl2 : j < ss.length := by have := HSL.out; omega
                      obtain ⟨p, hp⟩ : ∃ p, ss[j]? = some p := ⟨_, List.getElem?_eq_getElem hjl2⟩
                      obtain ⟨r, hr⟩ : ∃ r, qs[j]? = some r := ⟨_, List.getElem?_eq_getElem hjl⟩
                      have lp : lenQ p 2 := hq2 _ (HSO.out.1.mem_iff.1 (List.mem_of_getElem? hp))
                      have lr : lenQ r 2 := hq2 _ (List.mem_of_getElem? hr)
                      have HPJ := Lib.hid hp
                      have HRJ := Lib.hid hr
                      clear hp hr
                      by_cases d1 : p = x
                      · by_cases d2 : r = x
                        · have HB1 : Hid (true = decide (p = x)) := (decide_eq_true d1).symm
                          have HB2 : Hid (true = decide (r = x)) := (decide_eq_true d2).symm
                          have HN1 : Hid ((ss.take (j + 1)).count x = n1 + 1) := by show _ = _; rw [count_snoc HPJ.out, ← HC1.out, if_pos d1]
                          have HN2 : Hid ((qs.take (j + 1)).count x = n2 + 1) := by show _ = _; rw [count_snoc HRJ.out, ← HC2.out, if_pos d2]
                          clear d1 d2
                          obtain ⟨ue4, te4, hlte4, ze40, ze41, ze42, ze4s, ze4d⟩ := hS.at2 HPJ.out
                          obtain ⟨Ae4, ce4, rfl, _⟩ := id ze4s
                          obtain ⟨De4, ee4, rfl, _⟩ := id ze4d
                          have ze4 : IsQ wr (.agg #[.bool (ngB (p).num), .slice Ae4 (digs 4294967296 (p).num.natAbs).length ce4, .slice De4 (digs 4294967296 (p).den).length ee4]) (p) := ⟨_, _, rfl, ze4s, ze4d⟩
                          obtain ⟨ue5, te5, hlte5, ze50, ze51, ze52, ze5s, ze5d⟩ := hU.at2 HX.out
                          obtain ⟨Ae5, ce5, rfl, _⟩ := id ze5s
                          obtain ⟨De5, ee5, rfl, _⟩ := id ze5d
                          have ze5 : IsP wr (.agg #[.bool (ngB (x).num), .slice Ae5 (digs 10000 (x).num.natAbs).length ce5, .slice De5 (digs 10000 (x).den).length ee5]) (x) := ⟨_, _, rfl, ze5s, ze5d⟩
                          go_upto_region 19 with (fail)
                          refine flow 10 [Pd.eq (.slice (some ⟨gS_, oS_, none⟩) qs.length cS_), Pd.eq (.int .i64 (j : Int)), Pd.eq (.pointer (some ⟨gS_, oS_ + j * 3, none⟩)), Pd.eq (.agg #[.bool (ngB (p).num), .slice Ae4 (digs 4294967296 (p).num.natAbs).length ce4, .slice De4 (digs 4294967296 (p).den).length ee4]), Pd.eq (.slice (some ⟨gU_, oU_, none⟩) qs.length cU_), Pd.eq (.int .i64 (k : Int)), Pd.eq (.pointer (some ⟨gU_, oU_ + k * 3, none⟩)), Pd.eq (.agg #[.bool (ngB (x).num), .slice Ae5 (digs 10000 (x).num.natAbs).length ce5, .slice De5 (digs 10000 (x).den).length ee5]), pqn (x), Pd.eq (.bool true)] (by kernel_rfl) (by kernel_rfl) ?ob85 ?done85
                          case ob85 =>
                            refine And.intro (ob_move rfl (wt_none rfl) (ev_far rfl rfl) (fun _ _ h => h)) ?_
                            refine And.intro (ob_move rfl (wt_none rfl) (ev_far rfl rfl) (fun _ _ h => h)) ?_
                            refine And.intro (ob_indexAddr rfl (wt_none rfl) (ev_dep (j := 0) (by kernel_rfl) rfl rfl) (ev_dep (j := 1) (by kernel_rfl) rfl rfl) (fun _ _ _ hx hy => ⟨_, by rw [hx, hy]; exact index3 (k := j) Tryz.underlying22 (by kernel_rfl) hlte4 _, rfl⟩)) ?_
                            refine And.intro (ob_load rfl (wt_none rfl) (ev_dep (j := 2) (by kernel_rfl) rfl rfl) (fun w2 hb => load3 Tryz.underlying28 rfl (by kernel_rfl) ((hb.cell (World.block_lt_of_cell? wr _ ze40)).trans ze40) ((hb.cell (World.block_lt_of_cell? wr _ ze41)).trans ze41) ((hb.cell (World.block_lt_of_cell? wr _ ze42)).trans ze42)) (fun _ _ => rfl)) ?_
                            refine And.intro (ob_move rfl (wt_none rfl) (ev_far rfl rfl) (fun _ _ h => h)) ?_
                            refine And.intro (ob_move rfl (wt_none rfl) (ev_far rfl rfl) (fun _ _ h => h)) ?_
                            refine And.intro (ob_indexAddr rfl (wt_none rfl) (ev_dep (j := 4) (by kernel_rfl) rfl rfl) (ev_dep (j := 5) (by kernel_rfl) rfl rfl) (fun _ _ _ hx hy => ⟨_, by rw [hx, hy]; exact index3 (k := k) Tryz.underlying29 (by kernel_rfl) hlte5 _, rfl⟩)) ?_
                            refine And.intro (ob_load rfl (wt_none rfl) (ev_dep (j := 6) (by kernel_rfl) rfl rfl) (fun w2 hb => load3 Tryz.underlying41 rfl (by kernel_rfl) ((hb.cell (World.block_lt_of_cell? wr _ ze50)).trans ze50) ((hb.cell (World.block_lt_of_cell? wr _ ze51)).trans ze51) ((hb.cell (World.block_lt_of_cell? wr _ ze52)).trans ze52)) (fun _ _ => rfl)) ?_
                            refine And.intro (ob_call1 rfl Tryz.func13 (by kernel_rfl) (wt_none rfl) (ev_dep (j := 7) (by kernel_rfl) rfl rfl) (fun w2 u0 hb h0 => by obtain rfl := h0; exact (qback_any _ _ _ (ze5.drew.below hb) (lx.mono (by decide))).mono fun e w3 h => RetQn.pd (RetQ.n h))) ?_
                            refine And.intro (ob_call2 rfl Tryz.func11 (by kernel_rfl) (wt_none rfl) (ev_dep (j := 3) (by kernel_rfl) rfl rfl) (ev_dep (j := 8) (by kernel_rfl) rfl rfl) (fun w2 u0 u1 hb h0 h1 => by obtain rfl := h0; exact (qsame_any _ _ (p) (x) true _ (ze4.drew.below hb) h1 HB1.out).mono fun e w3 h => RetV.pd h)) ?_
                            trivial
                          case done85 =>
                            refine fun w13 hb13 v0 h0 v1 h1 v2 h2 v3 h3 v4 h4 v5 h5 v6 h6 v7 h7 v8 h8 v9 h9 b hbf => ?_
                            obtain rfl := h0; obtain rfl := h1; obtain rfl := h2; obtain rfl := h3; obtain rfl := h4; obtain rfl := h5; obtain rfl := h6; obtain rfl := h7; obtain rfl := h9
                            have q8 := h8
                            simp only [Act.put, List.setIfInBounds_toArray, List.set_cons_zero, List.set_cons_succ] at hbf
                            subst hbf
                            replace Blo := Blo.below hb13
                            replace klos := klos.below hb13
                            replace klod := klod.below hb13
                            replace kloz := kloz.below hb13
                            replace klo := klo.below hb13
                            replace Bhi := Bhi.below hb13
                            replace khis := khis.below hb13
                            replace khid := khid.below hb13
                            replace khiz := khiz.below hb13
                            replace khi := khi.below hb13
                            replace Bs2 := Bs2.below hb13
                            replace ks2s := ks2s.below hb13
                            replace ks2d := ks2d.below hb13
                            replace ks2z := ks2z.below hb13
                            replace ks2 := ks2.below hb13
                            replace hV := hV.below hb13
                            replace hU := hU.below hb13
                            replace hS := hS.below hb13
                            replace hR := hR.below hb13
                            replace bb := bb.trans (hb13.mono bb.size)
                            have hsz13 := bb.size
                            replace hbJ := hbJ.trans (hb13.mono hbJ.size)
                            refine any_done (by kernel_rfl) ?_
                            obtain ⟨ue6, te6, hlte6, ze60, ze61, ze62, ze6s, ze6d⟩ := hV.at2 HRJ.out
                            obtain ⟨Ae6, ce6, rfl, _⟩ := id ze6s
                            obtain ⟨De6, ee6, rfl, _⟩ := id ze6d
                            have ze6 : IsQ w13 (.agg #[.bool (ngB (r).num), .slice Ae6 (digs 4294967296 (r).num.natAbs).length ce6, .slice De6 (digs 4294967296 (r).den).length ee6]) (r) := ⟨_, _, rfl, ze6s, ze6d⟩
                            obtain ⟨ue7, te7, hlte7, ze70, ze71, ze72, ze7s, ze7d⟩ := hV.at2 HX.out
                            obtain ⟨Ae7, ce7, rfl, _⟩ := id ze7s
                            obtain ⟨De7, ee7, rfl, _⟩ := id ze7d
                            have ze7 : IsQ w13 (.agg #[.bool (ngB (x).num), .slice Ae7 (digs 4294967296 (x).num.natAbs).length ce7, .slice De7 (digs 4294967296 (x).den).length ee7]) (x) := ⟨_, _, rfl, ze7s, ze7d⟩
                            go_upto_region 21 with (fail)
                            refine flow 9 [Pd.eq (.slice (some ⟨gV_, oV_, none⟩) qs.length cV_), Pd.eq (.int .i64 (j : Int)), Pd.eq (.pointer (some ⟨gV_, oV_ + j * 3, none⟩)), Pd.eq (.agg #[.bool (ngB (r).num), .slice Ae6 (digs 4294967296 (r).num.natAbs).length ce6, .slice De6 (digs 4294967296 (r).den).length ee6]), Pd.eq (.slice (some ⟨gV_, oV_, none⟩) qs.length cV_), Pd.eq (.int .i64 (k : Int)), Pd.eq (.pointer (some ⟨gV_, oV_ + k * 3, none⟩)), Pd.eq (.agg #[.bool (ngB (x).num), .slice Ae7 (digs 4294967296 (x).num.natAbs).length ce7, .slice De7 (digs 4294967296 (x).den).length ee7]), Pd.eq (.bool true)] (by kernel_rfl) (by kernel_rfl) ?ob86 ?done86
                            case ob86 =>
                              refine And.intro (ob_move rfl (wt_none rfl) (ev_far rfl rfl) (fun _ _ h => h)) ?_
                              refine And.intro (ob_move rfl (wt_none rfl) (ev_far rfl rfl) (fun _ _ h => h)) ?_
                              refine And.intro (ob_indexAddr rfl (wt_none rfl) (ev_dep (j := 0) (by kernel_rfl) rfl rfl) (ev_dep (j := 1) (by kernel_rfl) rfl rfl) (fun _ _ _ hx hy => ⟨_, by rw [hx, hy]; exact index3 (k := j) Tryz.underlying22 (by kernel_rfl) hlte6 _, rfl⟩)) ?_
                              refine And.intro (ob_load rfl (wt_none rfl) (ev_dep (j := 2) (by kernel_rfl) rfl rfl) (fun w2 hb => load3 Tryz.underlying28 rfl (by kernel_rfl) ((hb.cell (World.block_lt_of_cell? w13 _ ze60)).trans ze60) ((hb.cell (World.block_lt_of_cell? w13 _ ze61)).trans ze61) ((hb.cell (World.block_lt_of_cell? w13 _ ze62)).trans ze62)) (fun _ _ => rfl)) ?_
                              refine And.intro (ob_move rfl (wt_none rfl) (ev_far rfl rfl) (fun _ _ h => h)) ?_
                              refine And.intro (ob_move rfl (wt_none rfl) (ev_far rfl rfl) (fun _ _ h => h)) ?_
                              refine And.intro (ob_indexAddr rfl (wt_none rfl) (ev_dep (j := 4) (by kernel_rfl) rfl rfl) (ev_dep (j := 5) (by kernel_rfl) rfl rfl) (fun _ _ _ hx hy => ⟨_, by rw [hx, hy]; exact index3 (k := k) Tryz.underlying22 (by kernel_rfl) hlte7 _, rfl⟩)) ?_
                              refine And.intro (ob_load rfl (wt_none rfl) (ev_dep (j := 6) (by kernel_rfl) rfl rfl) (fun w2 hb => load3 Tryz.underlying28 rfl (by kernel_rfl) ((hb.cell (World.block_lt_of_cell? w13 _ ze70)).trans ze70) ((hb.cell (World.block_lt_of_cell? w13 _ ze71)).trans ze71) ((hb.cell (World.block_lt_of_cell? w13 _ ze72)).trans ze72)) (fun _ _ => rfl)) ?_
                              refine And.intro (ob_call2 rfl Tryz.func11 (by kernel_rfl) (wt_none rfl) (ev_dep (j := 3) (by kernel_rfl) rfl rfl) (ev_dep (j := 7) (by kernel_rfl) rfl rfl) (fun w2 u0 u1 hb h0 h1 => by obtain rfl := h0; obtain rfl := h1; exact (qsame_any _ _ (r) (x) true _ (ze6.drew.below hb) (ze7.drew.below hb) HB2.out).mono fun e w3 h => RetV.pd h)) ?_
                              trivial
                            case done86 =>
                              refine fun w14 hb14 v0 h0 v1 h1 v2 h2 v3 h3 v4 h4 v5 h5 v6 h6 v7 h7 v8 h8 b hbf => ?_
                              obtain rfl := h0; obtain rfl := h1; obtain rfl := h2; obtain rfl := h3; obtain rfl := h4; obtain rfl := h5; obtain rfl := h6; obtain rfl := h7; obtain rfl := h8
                              simp only [Act.put, List.setIfInBounds_toArray, List.set_cons_zero, List.set_cons_succ] at hbf
                              subst hbf
                              replace Blo := Blo.below hb14
                              replace klos := klos.below hb14
                              replace klod := klod.below hb14
                              replace kloz := kloz.below hb14
                              replace klo := klo.below hb14
                              replace Bhi := Bhi.below hb14
                              replace khis := khis.below hb14
                              replace khid := khid.below hb14
                              replace khiz := khiz.below hb14
                              replace khi := khi.below hb14
                              replace Bs2 := Bs2.below hb14
                              replace ks2s := ks2s.below hb14
                              replace ks2d := ks2d.below hb14
                              replace ks2z := ks2z.below hb14
                              replace ks2 := ks2.below hb14
                              replace hV := hV.below hb14
                              replace hU := hU.below hb14
                              replace hS := hS.below hb14
                              replace hR := hR.below hb14
                              replace bb := bb.trans (hb14.mono bb.size)
                              have hsz14 := bb.size
                              replace hbJ := hbJ.trans (hb14.mono hbJ.size)
                              refine any_done (by kernel_rfl) ?_
                              have hsk : qs.length - (j + 1) < qs.length - j := by omega
                              have HBJ := hbJ
                              clear hbJ
                              go_wp2
                              go_roundw
                              case rel => exact ⟨j + 1, by omega, HBJ, (by rw [HN1.out, HN2.out]; go_num), by go_num⟩
                              case measure => simp [RowKit.intOf]; omega
                        · have HB1 : Hid (true = decide (p = x)) := (decide_eq_true d1).symm
                          have HB2 : Hid (false = decide (r = x)) := (decide_eq_false d2).symm
                          have HN1 : Hid ((ss.take (j + 1)).count x = n1 + 1) := by show _ = _; rw [count_snoc HPJ.out, ← HC1.out, if_pos d1]
                          have HN2 : Hid ((qs.take (j + 1)).count x = n2 + 0) := by show _ = _; rw [count_snoc HRJ.out, ← HC2.out, if_neg d2]
                          clear d1 d2
                          obtain ⟨ue4, te4, hlte4, ze40, ze41, ze42, ze4s, ze4d⟩ := hS.at2 HPJ.out
                          obtain ⟨Ae4, ce4, rfl, _⟩ := id ze4s
                          obtain ⟨De4, ee4, rfl, _⟩ := id ze4d
                          have ze4 : IsQ wr (.agg #[.bool (ngB (p).num), .slice Ae4 (digs 4294967296 (p).num.natAbs).length ce4, .slice De4 (digs 4294967296 (p).den).length ee4]) (p) := ⟨_, _, rfl, ze4s, ze4d⟩
                          obtain ⟨ue5, te5, hlte5, ze50, ze51, ze52, ze5s, ze5d⟩ := hU.at2 HX.out
                          obtain ⟨Ae5, ce5, rfl, _⟩ := id ze5s
                          obtain ⟨De5, ee5, rfl, _⟩ := id ze5d
                          have ze5 : IsP wr (.agg #[.bool (ngB (x).num), .slice Ae5 (digs 10000 (x).num.natAbs).length ce5, .slice De5 (digs 10000 (x).den).length ee5]) (x) := ⟨_, _, rfl, ze5s, ze5d⟩
                          go_upto_region 19 with (fail)
                          refine flow 10 [Pd.eq (.slice (some ⟨gS_, oS_, none⟩) qs.length cS_), Pd.eq (.int .i64 (j : Int)), Pd.eq (.pointer (some ⟨gS_, oS_ + j * 3, none⟩)), Pd.eq (.agg #[.bool (ngB (p).num), .slice Ae4 (digs 4294967296 (p).num.natAbs).length ce4, .slice De4 (digs 4294967296 (p).den).length ee4]), Pd.eq (.slice (some ⟨gU_, oU_, none⟩) qs.length cU_), Pd.eq (.int .i64 (k : Int)), Pd.eq (.pointer (some ⟨gU_, oU_ + k * 3, none⟩)), Pd.eq (.agg #[.bool (ngB (x).num), .slice Ae5 (digs 10000 (x).num.natAbs).length ce5, .slice De5 (digs 10000 (x).den).length ee5]), pqn (x), Pd.eq (.bool true)] (by kernel_rfl) (by kernel_rfl) ?ob87 ?done87
                          case ob87 =>
                            refine And.intro (ob_move rfl (wt_none rfl) (ev_far rfl rfl) (fun _ _ h => h)) ?_
                            refine And.intro (ob_move rfl (wt_none rfl) (ev_far rfl rfl) (fun _ _ h => h)) ?_
                            refine And.intro (ob_indexAddr rfl (wt_none rfl) (ev_dep (j := 0) (by kernel_rfl) rfl rfl) (ev_dep (j := 1) (by kernel_rfl) rfl rfl) (fun _ _ _ hx hy => ⟨_, by rw [hx, hy]; exact index3 (k := j) Tryz.underlying22 (by kernel_rfl) hlte4 _, rfl⟩)) ?_
                            refine And.intro (ob_load rfl (wt_none rfl) (ev_dep (j := 2) (by kernel_rfl) rfl rfl) (fun w2 hb => load3 Tryz.underlying28 rfl (by kernel_rfl) ((hb.cell (World.block_lt_of_cell? wr _ ze40)).trans ze40) ((hb.cell (World.block_lt_of_cell? wr _ ze41)).trans ze41) ((hb.cell (World.block_lt_of_cell? wr _ ze42)).trans ze42)) (fun _ _ => rfl)) ?_
                            refine And.intro (ob_move rfl (wt_none rfl) (ev_far rfl rfl) (fun _ _ h => h)) ?_
                            refine And.intro (ob_move rfl (wt_none rfl) (ev_far rfl rfl) (fun _ _ h => h)) ?_
                            refine And.intro (ob_indexAddr rfl (wt_none rfl) (ev_dep (j := 4) (by kernel_rfl) rfl rfl) (ev_dep (j := 5) (by kernel_rfl) rfl rfl) (fun _ _ _ hx hy => ⟨_, by rw [hx, hy]; exact index3 (k := k) Tryz.underlying29 (by kernel_rfl) hlte5 _, rfl⟩)) ?_
                            refine And.intro (ob_load rfl (wt_none rfl) (ev_dep (j := 6) (by kernel_rfl) rfl rfl) (fun w2 hb => load3 Tryz.underlying41 rfl (by kernel_rfl) ((hb.cell (World.block_lt_of_cell? wr _ ze50)).trans ze50) ((hb.cell (World.block_lt_of_cell? wr _ ze51)).trans ze51) ((hb.cell (World.block_lt_of_cell? wr _ ze52)).trans ze52)) (fun _ _ => rfl)) ?_
                            refine And.intro (ob_call1 rfl Tryz.func13 (by kernel_rfl) (wt_none rfl) (ev_dep (j := 7) (by kernel_rfl) rfl rfl) (fun w2 u0 hb h0 => by obtain rfl := h0; exact (qback_any _ _ _ (ze5.drew.below hb) (lx.mono (by decide))).mono fun e w3 h => RetQn.pd (RetQ.n h))) ?_
                            refine And.intro (ob_call2 rfl Tryz.func11 (by kernel_rfl) (wt_none rfl) (ev_dep (j := 3) (by kernel_rfl) rfl rfl) (ev_dep (j := 8) (by kernel_rfl) rfl rfl) (fun w2 u0 u1 hb h0 h1 => by obtain rfl := h0; exact (qsame_any _ _ (p) (x) true _ (ze4.drew.below hb) h1 HB1.out).mono fun e w3 h => RetV.pd h)) ?_
                            trivial
                          case done87 =>
                            refine fun w13 hb13 v0 h0 v1 h1 v2 h2 v3 h3 v4 h4 v5 h5 v6 h6 v7 h7 v8 h8 v9 h9 b hbf => ?_
                            obtain rfl := h0; obtain rfl := h1; obtain rfl := h2; obtain rfl := h3; obtain rfl := h4; obtain rfl := h5; obtain rfl := h6; obtain rfl := h7; obtain rfl := h9
                            have q8 := h8
                            simp only [Act.put, List.setIfInBounds_toArray, List.set_cons_zero, List.set_cons_succ] at hbf
                            subst hbf
                            replace Blo := Blo.below hb13
                            replace klos := klos.below hb13
                            replace klod := klod.below hb13
                            replace kloz := kloz.below hb13
                            replace klo := klo.below hb13
                            replace Bhi := Bhi.below hb13
                            replace khis := khis.below hb13
                            replace khid := khid.below hb13
                            replace khiz := khiz.below hb13
                            replace khi := khi.below hb13
                            replace Bs2 := Bs2.below hb13
                            replace ks2s := ks2s.below hb13
                            replace ks2d := ks2d.below hb13
                            replace ks2z := ks2z.below hb13
                            replace ks2 := ks2.below hb13
                            replace hV := hV.below hb13
                            replace hU := hU.below hb13
                            replace hS := hS.below hb13
                            replace hR := hR.below hb13
                            replace bb := bb.trans (hb13.mono bb.size)
                            have hsz13 := bb.size
                            replace hbJ := hbJ.trans (hb13.mono hbJ.size)
                            refine any_done (by kernel_rfl) ?_
                            obtain ⟨ue6, te6, hlte6, ze60, ze61, ze62, ze6s, ze6d⟩ := hV.at2 HRJ.out
                            obtain ⟨Ae6, ce6, rfl, _⟩ := id ze6s
                            obtain ⟨De6, ee6, rfl, _⟩ := id ze6d
                            have ze6 : IsQ w13 (.agg #[.bool (ngB (r).num), .slice Ae6 (digs 4294967296 (r).num.natAbs).length ce6, .slice De6 (digs 4294967296 (r).den).length ee6]) (r) := ⟨_, _, rfl, ze6s, ze6d⟩
                            obtain ⟨ue7, te7, hlte7, ze70, ze71, ze72, ze7s, ze7d⟩ := hV.at2 HX.out
                            obtain ⟨Ae7, ce7, rfl, _⟩ := id ze7s
                            obtain ⟨De7, ee7, rfl, _⟩ := id ze7d
                            have ze7 : IsQ w13 (.agg #[.bool (ngB (x).num), .slice Ae7 (digs 4294967296 (x).num.natAbs).length ce7, .slice De7 (digs 4294967296 (x).den).length ee7]) (x) := ⟨_, _, rfl, ze7s, ze7d⟩
                            go_upto_region 21 with (fail)
                            refine flow 9 [Pd.eq (.slice (some ⟨gV_, oV_, none⟩) qs.length cV_), Pd.eq (.int .i64 (j : Int)), Pd.eq (.pointer (some ⟨gV_, oV_ + j * 3, none⟩)), Pd.eq (.agg #[.bool (ngB (r).num), .slice Ae6 (digs 4294967296 (r).num.natAbs).length ce6, .slice De6 (digs 4294967296 (r).den).length ee6]), Pd.eq (.slice (some ⟨gV_, oV_, none⟩) qs.length cV_), Pd.eq (.int .i64 (k : Int)), Pd.eq (.pointer (some ⟨gV_, oV_ + k * 3, none⟩)), Pd.eq (.agg #[.bool (ngB (x).num), .slice Ae7 (digs 4294967296 (x).num.natAbs).length ce7, .slice De7 (digs 4294967296 (x).den).length ee7]), Pd.eq (.bool false)] (by kernel_rfl) (by kernel_rfl) ?ob88 ?done88
                            case ob88 =>
                              refine And.intro (ob_move rfl (wt_none rfl) (ev_far rfl rfl) (fun _ _ h => h)) ?_
                              refine And.intro (ob_move rfl (wt_none rfl) (ev_far rfl rfl) (fun _ _ h => h)) ?_
                              refine And.intro (ob_indexAddr rfl (wt_none rfl) (ev_dep (j := 0) (by kernel_rfl) rfl rfl) (ev_dep (j := 1) (by kernel_rfl) rfl rfl) (fun _ _ _ hx hy => ⟨_, by rw [hx, hy]; exact index3 (k := j) Tryz.underlying22 (by kernel_rfl) hlte6 _, rfl⟩)) ?_
                              refine And.intro (ob_load rfl (wt_none rfl) (ev_dep (j := 2) (by kernel_rfl) rfl rfl) (fun w2 hb => load3 Tryz.underlying28 rfl (by kernel_rfl) ((hb.cell (World.block_lt_of_cell? w13 _ ze60)).trans ze60) ((hb.cell (World.block_lt_of_cell? w13 _ ze61)).trans ze61) ((hb.cell (World.block_lt_of_cell? w13 _ ze62)).trans ze62)) (fun _ _ => rfl)) ?_
                              refine And.intro (ob_move rfl (wt_none rfl) (ev_far rfl rfl) (fun _ _ h => h)) ?_
                              refine And.intro (ob_move rfl (wt_none rfl) (ev_far rfl rfl) (fun _ _ h => h)) ?_
                              refine And.intro (ob_indexAddr rfl (wt_none rfl) (ev_dep (j := 4) (by kernel_rfl) rfl rfl) (ev_dep (j := 5) (by kernel_rfl) rfl rfl) (fun _ _ _ hx hy => ⟨_, by rw [hx, hy]; exact index3 (k := k) Tryz.underlying22 (by kernel_rfl) hlte7 _, rfl⟩)) ?_
                              refine And.intro (ob_load rfl (wt_none rfl) (ev_dep (j := 6) (by kernel_rfl) rfl rfl) (fun w2 hb => load3 Tryz.underlying28 rfl (by kernel_rfl) ((hb.cell (World.block_lt_of_cell? w13 _ ze70)).trans ze70) ((hb.cell (World.block_lt_of_cell? w13 _ ze71)).trans ze71) ((hb.cell (World.block_lt_of_cell? w13 _ ze72)).trans ze72)) (fun _ _ => rfl)) ?_
                              refine And.intro (ob_call2 rfl Tryz.func11 (by kernel_rfl) (wt_none rfl) (ev_dep (j := 3) (by kernel_rfl) rfl rfl) (ev_dep (j := 7) (by kernel_rfl) rfl rfl) (fun w2 u0 u1 hb h0 h1 => by obtain rfl := h0; obtain rfl := h1; exact (qsame_any _ _ (r) (x) false _ (ze6.drew.below hb) (ze7.drew.below hb) HB2.out).mono fun e w3 h => RetV.pd h)) ?_
                              trivial
                            case done88 =>
                              refine fun w14 hb14 v0 h0 v1 h1 v2 h2 v3 h3 v4 h4 v5 h5 v6 h6 v7 h7 v8 h8 b hbf => ?_
                              obtain rfl := h0; obtain rfl := h1; obtain rfl := h2; obtain rfl := h3; obtain rfl := h4; obtain rfl := h5; obtain rfl := h6; obtain rfl := h7; obtain rfl := h8
                              simp only [Act.put, List.setIfInBounds_toArray, List.set_cons_zero, List.set_cons_succ] at hbf
                              subst hbf
                              replace Blo := Blo.below hb14
                              replace klos := klos.below hb14
                              replace klod := klod.below hb14
                              replace kloz := kloz.below hb14
                              replace klo := klo.below hb14
                              replace Bhi := Bhi.below hb14
                              replace khis := khis.below hb14
                              replace khid := khid.below hb14
                              replace khiz := khiz.below hb14
                              replace khi := khi.below hb14
                              replace Bs2 := Bs2.below hb14
                              replace ks2s := ks2s.below hb14
                              replace ks2d := ks2d.below hb14
                              replace ks2z := ks2z.below hb14
                              replace ks2 := ks2.below hb14
                              replace hV := hV.below hb14
                              replace hU := hU.below hb14
                              replace hS := hS.below hb14
                              replace hR := hR.below hb14
                              replace bb := bb.trans (hb14.mono bb.size)
                              have hsz14 := bb.size
                              replace hbJ := hbJ.trans (hb14.mono hbJ.size)
                              refine any_done (by kernel_rfl) ?_
                              have hsk : qs.length - (j + 1) < qs.length - j := by omega
                              have HBJ := hbJ
                              clear hbJ
                              go_wp2
                              go_roundw
                              case rel => exact ⟨j + 1, by omega, HBJ, (by rw [HN1.out, HN2.out]; go_num), by go_num⟩
                              case measure => simp [RowKit.intOf]; omega
                      · by_cases d2 : r = x
                        · have HB1 : Hid (false = decide (p = x)) := (decide_eq_false d1).symm
                          have HB2 : Hid (true = decide (r = x)) := (decide_eq_true d2).symm
                          have HN1 : Hid ((ss.take (j + 1)).count x = n1 + 0) := by show _ = _; rw [count_snoc HPJ.out, ← HC1.out, if_neg d1]
                          have HN2 : Hid ((qs.take (j + 1)).count x = n2 + 1) := by show _ = _; rw [count_snoc HRJ.out, ← HC2.out, if_pos d2]
                          clear d1 d2
                          obtain ⟨ue4, te4, hlte4, ze40, ze41, ze42, ze4s, ze4d⟩ := hS.at2 HPJ.out
                          obtain ⟨Ae4, ce4, rfl, _⟩ := id ze4s
                          obtain ⟨De4, ee4, rfl, _⟩ := id ze4d
                          have ze4 : IsQ wr (.agg #[.bool (ngB (p).num), .slice Ae4 (digs 4294967296 (p).num.natAbs).length ce4, .slice De4 (digs 4294967296 (p).den).length ee4]) (p) := ⟨_, _, rfl, ze4s, ze4d⟩
                          obtain ⟨ue5, te5, hlte5, ze50, ze51, ze52, ze5s, ze5d⟩ := hU.at2 HX.out
                          obtain ⟨Ae5, ce5, rfl, _⟩ := id ze5s
                          obtain ⟨De5, ee5, rfl, _⟩ := id ze5d
                          have ze5 : IsP wr (.agg #[.bool (ngB (x).num), .slice Ae5 (digs 10000 (x).num.natAbs).length ce5, .slice De5 (digs 10000 (x).den).length ee5]) (x) := ⟨_, _, rfl, ze5s, ze5d⟩
                          go_upto_region 19 with (fail)
                          refine flow 10 [Pd.eq (.slice (some ⟨gS_, oS_, none⟩) qs.length cS_), Pd.eq (.int .i64 (j : Int)), Pd.eq (.pointer (some ⟨gS_, oS_ + j * 3, none⟩)), Pd.eq (.agg #[.bool (ngB (p).num), .slice Ae4 (digs 4294967296 (p).num.natAbs).length ce4, .slice De4 (digs 4294967296 (p).den).length ee4]), Pd.eq (.slice (some ⟨gU_, oU_, none⟩) qs.length cU_), Pd.eq (.int .i64 (k : Int)), Pd.eq (.pointer (some ⟨gU_, oU_ + k * 3, none⟩)), Pd.eq (.agg #[.bool (ngB (x).num), .slice Ae5 (digs 10000 (x).num.natAbs).length ce5, .slice De5 (digs 10000 (x).den).length ee5]), pqn (x), Pd.eq (.bool false)] (by kernel_rfl) (by kernel_rfl) ?ob89 ?done89
                          case ob89 =>
                            refine And.intro (ob_move rfl (wt_none rfl) (ev_far rfl rfl) (fun _ _ h => h)) ?_
                            refine And.intro (ob_move rfl (wt_none rfl) (ev_far rfl rfl) (fun _ _ h => h)) ?_
                            refine And.intro (ob_indexAddr rfl (wt_none rfl) (ev_dep (j := 0) (by kernel_rfl) rfl rfl) (ev_dep (j := 1) (by kernel_rfl) rfl rfl) (fun _ _ _ hx hy => ⟨_, by rw [hx, hy]; exact index3 (k := j) Tryz.underlying22 (by kernel_rfl) hlte4 _, rfl⟩)) ?_
                            refine And.intro (ob_load rfl (wt_none rfl) (ev_dep (j := 2) (by kernel_rfl) rfl rfl) (fun w2 hb => load3 Tryz.underlying28 rfl (by kernel_rfl) ((hb.cell (World.block_lt_of_cell? wr _ ze40)).trans ze40) ((hb.cell (World.block_lt_of_cell? wr _ ze41)).trans ze41) ((hb.cell (World.block_lt_of_cell? wr _ ze42)).trans ze42)) (fun _ _ => rfl)) ?_
                            refine And.intro (ob_move rfl (wt_none rfl) (ev_far rfl rfl) (fun _ _ h => h)) ?_
                            refine And.intro (ob_move rfl (wt_none rfl) (ev_far rfl rfl) (fun _ _ h => h)) ?_
                            refine And.intro (ob_indexAddr rfl (wt_none rfl) (ev_dep (j := 4) (by kernel_rfl) rfl rfl) (ev_dep (j := 5) (by kernel_rfl) rfl rfl) (fun _ _ _ hx hy => ⟨_, by rw [hx, hy]; exact index3 (k := k) Tryz.underlying29 (by kernel_rfl) hlte5 _, rfl⟩)) ?_
                            refine And.intro (ob_load rfl (wt_none rfl) (ev_dep (j := 6) (by kernel_rfl) rfl rfl) (fun w2 hb => load3 Tryz.underlying41 rfl (by kernel_rfl) ((hb.cell (World.block_lt_of_cell? wr _ ze50)).trans ze50) ((hb.cell (World.block_lt_of_cell? wr _ ze51)).trans ze51) ((hb.cell (World.block_lt_of_cell? wr _ ze52)).trans ze52)) (fun _ _ => rfl)) ?_
                            refine And.intro (ob_call1 rfl Tryz.func13 (by kernel_rfl) (wt_none rfl) (ev_dep (j := 7) (by kernel_rfl) rfl rfl) (fun w2 u0 hb h0 => by obtain rfl := h0; exact (qback_any _ _ _ (ze5.drew.below hb) (lx.mono (by decide))).mono fun e w3 h => RetQn.pd (RetQ.n h))) ?_
                            refine And.intro (ob_call2 rfl Tryz.func11 (by kernel_rfl) (wt_none rfl) (ev_dep (j := 3) (by kernel_rfl) rfl rfl) (ev_dep (j := 8) (by kernel_rfl) rfl rfl) (fun w2 u0 u1 hb h0 h1 => by obtain rfl := h0; exact (qsame_any _ _ (p) (x) false _ (ze4.drew.below hb) h1 HB1.out).mono fun e w3 h => RetV.pd h)) ?_
                            trivial
                          case done89 =>
                            refine fun w13 hb13 v0 h0 v1 h1 v2 h2 v3 h3 v4 h4 v5 h5 v6 h6 v7 h7 v8 h8 v9 h9 b hbf => ?_
                            obtain rfl := h0; obtain rfl := h1; obtain rfl := h2; obtain rfl := h3; obtain rfl := h4; obtain rfl := h5; obtain rfl := h6; obtain rfl := h7; obtain rfl := h9
                            have q8 := h8
                            simp only [Act.put, List.setIfInBounds_toArray, List.set_cons_zero, List.set_cons_succ] at hbf
                            subst hbf
                            replace Blo := Blo.below hb13
                            replace klos := klos.below hb13
                            replace klod := klod.below hb13
                            replace kloz := kloz.below hb13
                            replace klo := klo.below hb13
                            replace Bhi := Bhi.below hb13
                            replace khis := khis.below hb13
                            replace khid := khid.below hb13
                            replace khiz := khiz.below hb13
                            replace khi := khi.below hb13
                            replace Bs2 := Bs2.below hb13
                            replace ks2s := ks2s.below hb13
                            replace ks2d := ks2d.below hb13
                            replace ks2z := ks2z.below hb13
                            replace ks2 := ks2.below hb13
                            replace hV := hV.below hb13
                            replace hU := hU.below hb13
                            replace hS := hS.below hb13
                            replace hR := hR.below hb13
                            replace bb := bb.trans (hb13.mono bb.size)
                            have hsz13 := bb.size
                            replace hbJ := hbJ.trans (hb13.mono hbJ.size)
                            refine any_done (by kernel_rfl) ?_
                            obtain ⟨ue6, te6, hlte6, ze60, ze61, ze62, ze6s, ze6d⟩ := hV.at2 HRJ.out
                            obtain ⟨Ae6, ce6, rfl, _⟩ := id ze6s
                            obtain ⟨De6, ee6, rfl, _⟩ := id ze6d
                            have ze6 : IsQ w13 (.agg #[.bool (ngB (r).num), .slice Ae6 (digs 4294967296 (r).num.natAbs).length ce6, .slice De6 (digs 4294967296 (r).den).length ee6]) (r) := ⟨_, _, rfl, ze6s, ze6d⟩
                            obtain ⟨ue7, te7, hlte7, ze70, ze71, ze72, ze7s, ze7d⟩ := hV.at2 HX.out
                            obtain ⟨Ae7, ce7, rfl, _⟩ := id ze7s
                            obtain ⟨De7, ee7, rfl, _⟩ := id ze7d
                            have ze7 : IsQ w13 (.agg #[.bool (ngB (x).num), .slice Ae7 (digs 4294967296 (x).num.natAbs).length ce7, .slice De7 (digs 4294967296 (x).den).length ee7]) (x) := ⟨_, _, rfl, ze7s, ze7d⟩
                            go_upto_region 21 with (fail)
                            refine flow 9 [Pd.eq (.slice (some ⟨gV_, oV_, none⟩) qs.length cV_), Pd.eq (.int .i64 (j : Int)), Pd.eq (.pointer (some ⟨gV_, oV_ + j * 3, none⟩)), Pd.eq (.agg #[.bool (ngB (r).num), .slice Ae6 (digs 4294967296 (r).num.natAbs).length ce6, .slice De6 (digs 4294967296 (r).den).length ee6]), Pd.eq (.slice (some ⟨gV_, oV_, none⟩) qs.length cV_), Pd.eq (.int .i64 (k : Int)), Pd.eq (.pointer (some ⟨gV_, oV_ + k * 3, none⟩)), Pd.eq (.agg #[.bool (ngB (x).num), .slice Ae7 (digs 4294967296 (x).num.natAbs).length ce7, .slice De7 (digs 4294967296 (x).den).length ee7]), Pd.eq (.bool true)] (by kernel_rfl) (by kernel_rfl) ?ob90 ?done90
                            case ob90 =>
                              refine And.intro (ob_move rfl (wt_none rfl) (ev_far rfl rfl) (fun _ _ h => h)) ?_
                              refine And.intro (ob_move rfl (wt_none rfl) (ev_far rfl rfl) (fun _ _ h => h)) ?_
                              refine And.intro (ob_indexAddr rfl (wt_none rfl) (ev_dep (j := 0) (by kernel_rfl) rfl rfl) (ev_dep (j := 1) (by kernel_rfl) rfl rfl) (fun _ _ _ hx hy => ⟨_, by rw [hx, hy]; exact index3 (k := j) Tryz.underlying22 (by kernel_rfl) hlte6 _, rfl⟩)) ?_
                              refine And.intro (ob_load rfl (wt_none rfl) (ev_dep (j := 2) (by kernel_rfl) rfl rfl) (fun w2 hb => load3 Tryz.underlying28 rfl (by kernel_rfl) ((hb.cell (World.block_lt_of_cell? w13 _ ze60)).trans ze60) ((hb.cell (World.block_lt_of_cell? w13 _ ze61)).trans ze61) ((hb.cell (World.block_lt_of_cell? w13 _ ze62)).trans ze62)) (fun _ _ => rfl)) ?_
                              refine And.intro (ob_move rfl (wt_none rfl) (ev_far rfl rfl) (fun _ _ h => h)) ?_
                              refine And.intro (ob_move rfl (wt_none rfl) (ev_far rfl rfl) (fun _ _ h => h)) ?_
                              refine And.intro (ob_indexAddr rfl (wt_none rfl) (ev_dep (j := 4) (by kernel_rfl) rfl rfl) (ev_dep (j := 5) (by kernel_rfl) rfl rfl) (fun _ _ _ hx hy => ⟨_, by rw [hx, hy]; exact index3 (k := k) Tryz.underlying22 (by kernel_rfl) hlte7 _, rfl⟩)) ?_
                              refine And.intro (ob_load rfl (wt_none rfl) (ev_dep (j := 6) (by kernel_rfl) rfl rfl) (fun w2 hb => load3 Tryz.underlying28 rfl (by kernel_rfl) ((hb.cell (World.block_lt_of_cell? w13 _ ze70)).trans ze70) ((hb.cell (World.block_lt_of_cell? w13 _ ze71)).trans ze71) ((hb.cell (World.block_lt_of_cell? w13 _ ze72)).trans ze72)) (fun _ _ => rfl)) ?_
                              refine And.intro (ob_call2 rfl Tryz.func11 (by kernel_rfl) (wt_none rfl) (ev_dep (j := 3) (by kernel_rfl) rfl rfl) (ev_dep (j := 7) (by kernel_rfl) rfl rfl) (fun w2 u0 u1 hb h0 h1 => by obtain rfl := h0; obtain rfl := h1; exact (qsame_any _ _ (r) (x) true _ (ze6.drew.below hb) (ze7.drew.below hb) HB2.out).mono fun e w3 h => RetV.pd h)) ?_
                              trivial
                            case done90 =>
                              refine fun w14 hb14 v0 h0 v1 h1 v2 h2 v3 h3 v4 h4 v5 h5 v6 h6 v7 h7 v8 h8 b hbf => ?_
                              obtain rfl := h0; obtain rfl := h1; obtain rfl := h2; obtain rfl := h3; obtain rfl := h4; obtain rfl := h5; obtain rfl := h6; obtain rfl := h7; obtain rfl := h8
                              simp only [Act.put, List.setIfInBounds_toArray, List.set_cons_zero, List.set_cons_succ] at hbf
                              subst hbf
                              replace Blo := Blo.below hb14
                              replace klos := klos.below hb14
                              replace klod := klod.below hb14
                              replace kloz := kloz.below hb14
                              replace klo := klo.below hb14
                              replace Bhi := Bhi.below hb14
                              replace khis := khis.below hb14
                              replace khid := khid.below hb14
                              replace khiz := khiz.below hb14
                              replace khi := khi.below hb14
                              replace Bs2 := Bs2.below hb14
                              replace ks2s := ks2s.below hb14
                              replace ks2d := ks2d.below hb14
                              replace ks2z := ks2z.below hb14
                              replace ks2 := ks2.below hb14
                              replace hV := hV.below hb14
                              replace hU := hU.below hb14
                              replace hS := hS.below hb14
                              replace hR := hR.below hb14
                              replace bb := bb.trans (hb14.mono bb.size)
                              have hsz14 := bb.size
                              replace hbJ := hbJ.trans (hb14.mono hbJ.size)
                              refine any_done (by kernel_rfl) ?_
                              have hsk : qs.length - (j + 1) < qs.length - j := by omega
                              have HBJ := hbJ
                              clear hbJ
                              go_wp2
                              go_roundw
                              case rel => exact ⟨j + 1, by omega, HBJ, (by rw [HN1.out, HN2.out]; go_num), by go_num⟩
                              case measure => simp [RowKit.intOf]; omega
                        · have HB1 : Hid (false = decide (p = x)) := (decide_eq_false d1).symm
                          have HB2 : Hid (false = decide (r = x)) := (decide_eq_false d2).symm
                          have HN1 : Hid ((ss.take (j + 1)).count x = n1 + 0) := by show _ = _; rw [count_snoc HPJ.out, ← HC1.out, if_neg d1]
                          have HN2 : Hid ((qs.take (j + 1)).count x = n2 + 0) := by show _ = _; rw [count_snoc HRJ.out, ← HC2.out, if_neg d2]
                          clear d1 d2
                          obtain ⟨ue4, te4, hlte4, ze40, ze41, ze42, ze4s, ze4d⟩ := hS.at2 HPJ.out
                          obtain ⟨Ae4, ce4, rfl, _⟩ := id ze4s
                          obtain ⟨De4, ee4, rfl, _⟩ := id ze4d
                          have ze4 : IsQ wr (.agg #[.bool (ngB (p).num), .slice Ae4 (digs 4294967296 (p).num.natAbs).length ce4, .slice De4 (digs 4294967296 (p).den).length ee4]) (p) := ⟨_, _, rfl, ze4s, ze4d⟩
                          obtain ⟨ue5, te5, hlte5, ze50, ze51, ze52, ze5s, ze5d⟩ := hU.at2 HX.out
                          obtain ⟨Ae5, ce5, rfl, _⟩ := id ze5s
                          obtain ⟨De5, ee5, rfl, _⟩ := id ze5d
                          have ze5 : IsP wr (.agg #[.bool (ngB (x).num), .slice Ae5 (digs 10000 (x).num.natAbs).length ce5, .slice De5 (digs 10000 (x).den).length ee5]) (x) := ⟨_, _, rfl, ze5s, ze5d⟩
                          go_upto_region 19 with (fail)
                          refine flow 10 [Pd.eq (.slice (some ⟨gS_, oS_, none⟩) qs.length cS_), Pd.eq (.int .i64 (j : Int)), Pd.eq (.pointer (some ⟨gS_, oS_ + j * 3, none⟩)), Pd.eq (.agg #[.bool (ngB (p).num), .slice Ae4 (digs 4294967296 (p).num.natAbs).length ce4, .slice De4 (digs 4294967296 (p).den).length ee4]), Pd.eq (.slice (some ⟨gU_, oU_, none⟩) qs.length cU_), Pd.eq (.int .i64 (k : Int)), Pd.eq (.pointer (some ⟨gU_, oU_ + k * 3, none⟩)), Pd.eq (.agg #[.bool (ngB (x).num), .slice Ae5 (digs 10000 (x).num.natAbs).length ce5, .slice De5 (digs 10000 (x).den).length ee5]), pqn (x), Pd.eq (.bool false)] (by kernel_rfl) (by kernel_rfl) ?ob91 ?done91
                          case ob91 =>
                            refine And.intro (ob_move rfl (wt_none rfl) (ev_far rfl rfl) (fun _ _ h => h)) ?_
                            refine And.intro (ob_move rfl (wt_none rfl) (ev_far rfl rfl) (fun _ _ h => h)) ?_
                            refine And.intro (ob_indexAddr rfl (wt_none rfl) (ev_dep (j := 0) (by kernel_rfl) rfl rfl) (ev_dep (j := 1) (by kernel_rfl) rfl rfl) (fun _ _ _ hx hy => ⟨_, by rw [hx, hy]; exact index3 (k := j) Tryz.underlying22 (by kernel_rfl) hlte4 _, rfl⟩)) ?_
                            refine And.intro (ob_load rfl (wt_none rfl) (ev_dep (j := 2) (by kernel_rfl) rfl rfl) (fun w2 hb => load3 Tryz.underlying28 rfl (by kernel_rfl) ((hb.cell (World.block_lt_of_cell? wr _ ze40)).trans ze40) ((hb.cell (World.block_lt_of_cell? wr _ ze41)).trans ze41) ((hb.cell (World.block_lt_of_cell? wr _ ze42)).trans ze42)) (fun _ _ => rfl)) ?_
                            refine And.intro (ob_move rfl (wt_none rfl) (ev_far rfl rfl) (fun _ _ h => h)) ?_
                            refine And.intro (ob_move rfl (wt_none rfl) (ev_far rfl rfl) (fun _ _ h => h)) ?_
                            refine And.intro (ob_indexAddr rfl (wt_none rfl) (ev_dep (j := 4) (by kernel_rfl) rfl rfl) (ev_dep (j := 5) (by kernel_rfl) rfl rfl) (fun _ _ _ hx hy => ⟨_, by rw [hx, hy]; exact index3 (k := k) Tryz.underlying29 (by kernel_rfl) hlte5 _, rfl⟩)) ?_
                            refine And.intro (ob_load rfl (wt_none rfl) (ev_dep (j := 6) (by kernel_rfl) rfl rfl) (fun w2 hb => load3 Tryz.underlying41 rfl (by kernel_rfl) ((hb.cell (World.block_lt_of_cell? wr _ ze50)).trans ze50) ((hb.cell (World.block_lt_of_cell? wr _ ze51)).trans ze51) ((hb.cell (World.block_lt_of_cell? wr _ ze52)).trans ze52)) (fun _ _ => rfl)) ?_
                            refine And.intro (ob_call1 rfl Tryz.func13 (by kernel_rfl) (wt_none rfl) (ev_dep (j := 7) (by kernel_rfl) rfl rfl) (fun w2 u0 hb h0 => by obtain rfl := h0; exact (qback_any _ _ _ (ze5.drew.below hb) (lx.mono (by decide))).mono fun e w3 h => RetQn.pd (RetQ.n h))) ?_
                            refine And.intro (ob_call2 rfl Tryz.func11 (by kernel_rfl) (wt_none rfl) (ev_dep (j := 3) (by kernel_rfl) rfl rfl) (ev_dep (j := 8) (by kernel_rfl) rfl rfl) (fun w2 u0 u1 hb h0 h1 => by obtain rfl := h0; exact (qsame_any _ _ (p) (x) false _ (ze4.drew.below hb) h1 HB1.out).mono fun e w3 h => RetV.pd h)) ?_
                            trivial
                          case done91 =>
                            refine fun w13 hb13 v0 h0 v1 h1 v2 h2 v3 h3 v4 h4 v5 h5 v6 h6 v7 h7 v8 h8 v9 h9 b hbf => ?_
                            obtain rfl := h0; obtain rfl := h1; obtain rfl := h2; obtain rfl := h3; obtain rfl := h4; obtain rfl := h5; obtain rfl := h6; obtain rfl := h7; obtain rfl := h9
                            have q8 := h8
                            simp only [Act.put, List.setIfInBounds_toArray, List.set_cons_zero, List.set_cons_succ] at hbf
                            subst hbf
                            replace Blo := Blo.below hb13
                            replace klos := klos.below hb13
                            replace klod := klod.below hb13
                            replace kloz := kloz.below hb13
                            replace klo := klo.below hb13
                            replace Bhi := Bhi.below hb13
                            replace khis := khis.below hb13
                            replace khid := khid.below hb13
                            replace khiz := khiz.below hb13
                            replace khi := khi.below hb13
                            replace Bs2 := Bs2.below hb13
                            replace ks2s := ks2s.below hb13
                            replace ks2d := ks2d.below hb13
                            replace ks2z := ks2z.below hb13
                            replace ks2 := ks2.below hb13
                            replace hV := hV.below hb13
                            replace hU := hU.below hb13
                            replace hS := hS.below hb13
                            replace hR := hR.below hb13
                            replace bb := bb.trans (hb13.mono bb.size)
                            have hsz13 := bb.size
                            replace hbJ := hbJ.trans (hb13.mono hbJ.size)
                            refine any_done (by kernel_rfl) ?_
                            obtain ⟨ue6, te6, hlte6, ze60, ze61, ze62, ze6s, ze6d⟩ := hV.at2 HRJ.out
                            obtain ⟨Ae6, ce6, rfl, _⟩ := id ze6s
                            obtain ⟨De6, ee6, rfl, _⟩ := id ze6d
                            have ze6 : IsQ w13 (.agg #[.bool (ngB (r).num), .slice Ae6 (digs 4294967296 (r).num.natAbs).length ce6, .slice De6 (digs 4294967296 (r).den).length ee6]) (r) := ⟨_, _, rfl, ze6s, ze6d⟩
                            obtain ⟨ue7, te7, hlte7, ze70, ze71, ze72, ze7s, ze7d⟩ := hV.at2 HX.out
                            obtain ⟨Ae7, ce7, rfl, _⟩ := id ze7s
                            obtain ⟨De7, ee7, rfl, _⟩ := id ze7d
                            have ze7 : IsQ w13 (.agg #[.bool (ngB (x).num), .slice Ae7 (digs 4294967296 (x).num.natAbs).length ce7, .slice De7 (digs 4294967296 (x).den).length ee7]) (x) := ⟨_, _, rfl, ze7s, ze7d⟩
                            go_upto_region 21 with (fail)
                            refine flow 9 [Pd.eq (.slice (some ⟨gV_, oV_, none⟩) qs.length cV_), Pd.eq (.int .i64 (j : Int)), Pd.eq (.pointer (some ⟨gV_, oV_ + j * 3, none⟩)), Pd.eq (.agg #[.bool (ngB (r).num), .slice Ae6 (digs 4294967296 (r).num.natAbs).length ce6, .slice De6 (digs 4294967296 (r).den).length ee6]), Pd.eq (.slice (some ⟨gV_, oV_, none⟩) qs.length cV_), Pd.eq (.int .i64 (k : Int)), Pd.eq (.pointer (some ⟨gV_, oV_ + k * 3, none⟩)), Pd.eq (.agg #[.bool (ngB (x).num), .slice Ae7 (digs 4294967296 (x).num.natAbs).length ce7, .slice De7 (digs 4294967296 (x).den).length ee7]), Pd.eq (.bool false)] (by kernel_rfl) (by kernel_rfl) ?ob92 ?done92
                            case ob92 =>
                              refine And.intro (ob_move rfl (wt_none rfl) (ev_far rfl rfl) (fun _ _ h => h)) ?_
                              refine And.intro (ob_move rfl (wt_none rfl) (ev_far rfl rfl) (fun _ _ h => h)) ?_
                              refine And.intro (ob_indexAddr rfl (wt_none rfl) (ev_dep (j := 0) (by kernel_rfl) rfl rfl) (ev_dep (j := 1) (by kernel_rfl) rfl rfl) (fun _ _ _ hx hy => ⟨_, by rw [hx, hy]; exact index3 (k := j) Tryz.underlying22 (by kernel_rfl) hlte6 _, rfl⟩)) ?_
                              refine And.intro (ob_load rfl (wt_none rfl) (ev_dep (j := 2) (by kernel_rfl) rfl rfl) (fun w2 hb => load3 Tryz.underlying28 rfl (by kernel_rfl) ((hb.cell (World.block_lt_of_cell? w13 _ ze60)).trans ze60) ((hb.cell (World.block_lt_of_cell? w13 _ ze61)).trans ze61) ((hb.cell (World.block_lt_of_cell? w13 _ ze62)).trans ze62)) (fun _ _ => rfl)) ?_
                              refine And.intro (ob_move rfl (wt_none rfl) (ev_far rfl rfl) (fun _ _ h => h)) ?_
                              refine And.intro (ob_move rfl (wt_none rfl) (ev_far rfl rfl) (fun _ _ h => h)) ?_
                              refine And.intro (ob_indexAddr rfl (wt_none rfl) (ev_dep (j := 4) (by kernel_rfl) rfl rfl) (ev_dep (j := 5) (by kernel_rfl) rfl rfl) (fun _ _ _ hx hy => ⟨_, by rw [hx, hy]; exact index3 (k := k) Tryz.underlying22 (by kernel_rfl) hlte7 _, rfl⟩)) ?_
                              refine And.intro (ob_load rfl (wt_none rfl) (ev_dep (j := 6) (by kernel_rfl) rfl rfl) (fun w2 hb => load3 Tryz.underlying28 rfl (by kernel_rfl) ((hb.cell (World.block_lt_of_cell? w13 _ ze70)).trans ze70) ((hb.cell (World.block_lt_of_cell? w13 _ ze71)).trans ze71) ((hb.cell (World.block_lt_of_cell? w13 _ ze72)).trans ze72)) (fun _ _ => rfl)) ?_
                              refine And.intro (ob_call2 rfl Tryz.func11 (by kernel_rfl) (wt_none rfl) (ev_dep (j := 3) (by kernel_rfl) rfl rfl) (ev_dep (j := 7) (by kernel_rfl) rfl rfl) (fun w2 u0 u1 hb h0 h1 => by obtain rfl := h0; obtain rfl := h1; exact (qsame_any _ _ (r) (x) false _ (ze6.drew.below hb) (ze7.drew.below hb) HB2.out).mono fun e w3 h => RetV.pd h)) ?_
                              trivial
                            case done92 =>
                              refine fun w14 hb14 v0 h0 v1 h1 v2 h2 v3 h3 v4 h4 v5 h5 v6 h6 v7 h7 v8 h8 b hbf => ?_
                              obtain rfl := h0; obtain rfl := h1; obtain rfl := h2; obtain rfl := h3; obtain rfl := h4; obtain rfl := h5; obtain rfl := h6; obtain rfl := h7; obtain rfl := h8
                              simp only [Act.put, List.setIfInBounds_toArray, List.set_cons_zero, List.set_cons_succ] at hbf
                              subst hbf
                              replace Blo := Blo.below hb14
                              replace klos := klos.below hb14
                              replace klod := klod.below hb14
                              replace kloz := kloz.below hb14
                              replace klo := klo.below hb14
                              replace Bhi := Bhi.below hb14
                              replace khis := khis.below hb14
                              replace khid := khid.below hb14
                              replace khiz := khiz.below hb14
                              replace khi := khi.below hb14
                              replace Bs2 := Bs2.below hb14
                              replace ks2s := ks2s.below hb14
                              replace ks2d := ks2d.below hb14
                              replace ks2z := ks2z.below hb14
                              replace ks2 := ks2.below hb14
                              replace hV := hV.below hb14
                              replace hU := hU.below hb14
                              replace hS := hS.below hb14
                              replace hR := hR.below hb14
                              replace bb := bb.trans (hb14.mono bb.size)
                              have hsz14 := bb.size
                              replace hbJ := hbJ.trans (hb14.mono hbJ.size)
                              refine any_done (by kernel_rfl) ?_
                              have hsk : qs.length - (j + 1) < qs.length - j := by omega
                              have HBJ := hbJ
                              clear hbJ
                              go_wp2
                              go_roundw
                              case rel => exact ⟨j + 1, by omega, HBJ, (by rw [HN1.out, HN2.out]; go_num), by go_num⟩
                              case measure => simp [RowKit.intOf]; omega
                    · have HN1 : Hid (n1 = n2) := by show _ = _; rw [HC1.out, HC2.out, List.take_of_length_le (by have := HSL.out; omega), List.take_of_length_le (by omega)]; exact HSO.out.count x
                      have hn12 := HN1.out
                      have hn13 : (((n1 : Nat) : Int) - ((n2 : Nat) : Int)) = 0 := by omega
                      have hsk : qs.length - (k + 1) < qs.length - k := by omega
                      go_wp2
                      refine ⟨?_, ?measure⟩
                      (repeat apply Exists.intro)
                      refine ⟨?rel, rfl⟩
                      case rel => exact ⟨k + 1, by omega, (by rw [← HYS.out, HYT.out]; exact ⟨_, _, Bs2, ks2s, ks2d⟩), ⟨_, _, Blo, klos, klod⟩, ⟨_, _, Bhi, khis, khid⟩, hV, hU, hS, hR, bb, by go_num⟩
                      case measure => simp [RowKit.intOf]; omega
              · have hk1 : k - 1 < ss.length := by omega
                obtain ⟨a, ha⟩ : ∃ a, ss[k - 1]? = some a := ⟨_, List.getElem?_eq_getElem hk1⟩
                have la : lenQ a 2 := hq2 _ (HSO.out.1.mem_iff.1 (List.mem_of_getElem? ha))
                have HAK := Lib.hid ha
                have HLE : Hid (¬ 0 < ordq a b) := fun h => Rat.not_lt.2 (HSO.out.le ha HBK.out (by omega)) (ordq_pos.1 h)
                clear ha hk1
                obtain ⟨ue2, te2, hlte2, ze20, ze21, ze22, ze2s, ze2d⟩ := hR.at2 HY.out
                obtain ⟨Ae2, ce2, rfl, _⟩ := id ze2s
                obtain ⟨De2, ee2, rfl, _⟩ := id ze2d
                have ze2 : IsQ w10 (.agg #[.bool (ngB (Y).num), .slice Ae2 (digs 4294967296 (Y).num.natAbs).length ce2, .slice De2 (digs 4294967296 (Y).den).length ee2]) (Y) := ⟨_, _, rfl, ze2s, ze2d⟩
                obtain ⟨ue8, te8, hlte8, ze80, ze81, ze82, ze8s, ze8d⟩ := hS.at2 HAK.out
                obtain ⟨Ae8, ce8, rfl, _⟩ := id ze8s
                obtain ⟨De8, ee8, rfl, _⟩ := id ze8d
                have ze8 : IsQ w10 (.agg #[.bool (ngB (a).num), .slice Ae8 (digs 4294967296 (a).num.natAbs).length ce8, .slice De8 (digs 4294967296 (a).den).length ee8]) (a) := ⟨_, _, rfl, ze8s, ze8d⟩
                obtain ⟨ue9, te9, hlte9, ze90, ze91, ze92, ze9s, ze9d⟩ := hS.at2 HBK.out
                obtain ⟨Ae9, ce9, rfl, _⟩ := id ze9s
                obtain ⟨De9, ee9, rfl, _⟩ := id ze9d
                have ze9 : IsQ w10 (.agg #[.bool (ngB (b).num), .slice Ae9 (digs 4294967296 (b).num.natAbs).length ce9, .slice De9 (digs 4294967296 (b).den).length ee9]) (b) := ⟨_, _, rfl, ze9s, ze9d⟩
                go_upto_region 13 with (fail)
                refine flow 27 [Pd.eq (.slice (some ⟨gR_, oR_, none⟩) qs.length cR_), Pd.eq (.int .i64 (k : Int)), Pd.eq (.pointer (some ⟨gR_, oR_ + k * 3, none⟩)), Pd.eq (.agg #[.bool (ngB (Y).num), .slice Ae2 (digs 4294967296 (Y).num.natAbs).length ce2, .slice De2 (digs 4294967296 (Y).den).length ee2]), Pd.eq (.agg #[.bool (ngB ((t + x)).num), .slice As2 (digs 10000 ((t + x)).num.natAbs).length cs2, .slice Ds2 (digs 10000 ((t + x)).den).length es2]), pqn ((t + x)), Pd.eq (.bool true), Pd.eq (.bool false), Pd.eq (.bool false), Pd.eq (.int .i64 (k : Int)), Pd.eq (.bool true), Pd.eq (.bool true), Pd.eq (.slice (some ⟨gS_, oS_, none⟩) qs.length cS_), Pd.eq (.int .i64 (k : Int)), Pd.eq (.int .i64 (((k - 1) : Nat) : Int)), Pd.eq (.pointer (some ⟨gS_, oS_ + (k - 1) * 3, none⟩)), Pd.eq (.agg #[.bool (ngB (a).num), .slice Ae8 (digs 4294967296 (a).num.natAbs).length ce8, .slice De8 (digs 4294967296 (a).den).length ee8]), pp (a), Pd.eq (.slice (some ⟨gS_, oS_, none⟩) qs.length cS_), Pd.eq (.int .i64 (k : Int)), Pd.eq (.pointer (some ⟨gS_, oS_ + k * 3, none⟩)), Pd.eq (.agg #[.bool (ngB (b).num), .slice Ae9 (digs 4294967296 (b).num.natAbs).length ce9, .slice De9 (digs 4294967296 (b).den).length ee9]), pp (b), Pd.eq (.int .i64 (ordq (a) (b))), Pd.eq (.bool false), Pd.eq (.bool false), Pd.eq (.bool false)] (by kernel_rfl) (by kernel_rfl) ?ob93 ?done93
                case ob93 =>
                  refine And.intro (ob_move rfl (wt_none rfl) (ev_far rfl rfl) (fun _ _ h => h)) ?_
                  refine And.intro (ob_move rfl (wt_none rfl) (ev_far rfl rfl) (fun _ _ h => h)) ?_
                  refine And.intro (ob_indexAddr rfl (wt_none rfl) (ev_dep (j := 0) (by kernel_rfl) rfl rfl) (ev_dep (j := 1) (by kernel_rfl) rfl rfl) (fun _ _ _ hx hy => ⟨_, by rw [hx, hy]; exact index3 (k := k) Tryz.underlying22 (by kernel_rfl) hlte2 _, rfl⟩)) ?_
                  refine And.intro (ob_load rfl (wt_none rfl) (ev_dep (j := 2) (by kernel_rfl) rfl rfl) (fun w2 hb => load3 Tryz.underlying28 rfl (by kernel_rfl) ((hb.cell (World.block_lt_of_cell? w10 _ ze20)).trans ze20) ((hb.cell (World.block_lt_of_cell? w10 _ ze21)).trans ze21) ((hb.cell (World.block_lt_of_cell? w10 _ ze22)).trans ze22)) (fun _ _ => rfl)) ?_
                  refine And.intro (ob_load rfl (wt_none rfl) (ev_far rfl rfl) (fun w2 hb => run_loadAll Tryz.underlying41 rfl (by kernel_rfl) (Bs2.drew.below hb)) (fun _ _ => rfl)) ?_
                  refine And.intro (ob_call1 rfl Tryz.func13 (by kernel_rfl) (wt_none rfl) (ev_dep (j := 4) (by kernel_rfl) rfl rfl) (fun w2 u0 hb h0 => by obtain rfl := h0; exact (qback_any _ _ _ (ks2.drew.below hb) ((lenQ_add lt_ lx).mono (by decide))).mono fun e w3 h => RetQn.pd (RetQ.n h))) ?_
                  refine And.intro (ob_call2 rfl Tryz.func11 (by kernel_rfl) (wt_none rfl) (ev_dep (j := 3) (by kernel_rfl) rfl rfl) (ev_dep (j := 5) (by kernel_rfl) rfl rfl) (fun w2 u0 u1 hb h0 h1 => by obtain rfl := h0; exact (qsame_eq _ _ (Y) ((t + x)) _ (ze2.drew.below hb) h1 HYT.out).mono fun e w3 h => RetV.pd h)) ?_
                  refine And.intro (ob_un rfl (wt_none rfl) (ev_dep (j := 6) (by kernel_rfl) rfl rfl) (fun _ => un_not _ _) (fun _ => rfl)) ?_
                  refine And.intro (ob_move rfl (wt_none rfl) (ev_dep (j := 7) (by kernel_rfl) rfl rfl) (fun _ _ h => h)) ?_
                  refine And.intro (ob_move rfl (wt_dep (c := false) (b := false) (g := 8) rfl (by kernel_rfl) rfl rfl rfl (by exact fun _ _ h => h)) (ev_far rfl rfl) (fun _ _ h => h)) ?_
                  refine And.intro (ob_bin rfl (wt_dep (c := false) (b := false) (g := 8) rfl (by kernel_rfl) rfl rfl rfl (by exact fun _ _ h => h)) (ev_dep (j := 9) (by kernel_rfl) rfl rfl) (ev_const _) (fun _ _ _ hx hy => ⟨.bool true, by rw [hx, hy, bin_gtr_int, decide_eq_true (show (0 : Int) < (k : Int) by omega)], rfl⟩)) ?_
                  refine And.intro (ob_move rfl (wt_dep (c := false) (b := false) (g := 8) rfl (by kernel_rfl) rfl rfl rfl (by exact fun _ _ h => h)) (ev_dep (j := 10) (by kernel_rfl) rfl rfl) (fun _ _ h => h)) ?_
                  refine And.intro (ob_move rfl (wt_dep (c := true) (b := true) (g := 11) rfl (by kernel_rfl) rfl rfl rfl (by exact fun _ _ h => h)) (ev_far rfl rfl) (fun _ _ h => h)) ?_
                  refine And.intro (ob_move rfl (wt_dep (c := true) (b := true) (g := 11) rfl (by kernel_rfl) rfl rfl rfl (by exact fun _ _ h => h)) (ev_far rfl rfl) (fun _ _ h => h)) ?_
                  refine And.intro (ob_bin rfl (wt_dep (c := true) (b := true) (g := 11) rfl (by kernel_rfl) rfl rfl rfl (by exact fun _ _ h => h)) (ev_dep (j := 13) (by kernel_rfl) rfl rfl) (ev_const _) (fun _ _ _ hx hy => ⟨_, by rw [hx, hy]; exact bin_sub_nat _ _ (k) (1) (by first | omega | (simp; omega)) (by first | omega | (simp; omega)) _, rfl⟩)) ?_
                  refine And.intro (ob_indexAddr rfl (wt_dep (c := true) (b := true) (g := 11) rfl (by kernel_rfl) rfl rfl rfl (by exact fun _ _ h => h)) (ev_dep (j := 12) (by kernel_rfl) rfl rfl) (ev_dep (j := 14) (by kernel_rfl) rfl rfl) (fun _ _ _ hx hy => ⟨_, by rw [hx, hy]; exact index3 (k := (k - 1)) Tryz.underlying22 (by kernel_rfl) hlte8 _, rfl⟩)) ?_
                  refine And.intro (ob_load rfl (wt_dep (c := true) (b := true) (g := 11) rfl (by kernel_rfl) rfl rfl rfl (by exact fun _ _ h => h)) (ev_dep (j := 15) (by kernel_rfl) rfl rfl) (fun w2 hb => load3 Tryz.underlying28 rfl (by kernel_rfl) ((hb.cell (World.block_lt_of_cell? w10 _ ze80)).trans ze80) ((hb.cell (World.block_lt_of_cell? w10 _ ze81)).trans ze81) ((hb.cell (World.block_lt_of_cell? w10 _ ze82)).trans ze82)) (fun _ _ => rfl)) ?_
                  refine And.intro (ob_call1 rfl Tryz.func22 (by kernel_rfl) (wt_dep (c := true) (b := true) (g := 11) rfl (by kernel_rfl) rfl rfl rfl (by exact fun _ _ h => h)) (ev_dep (j := 16) (by kernel_rfl) rfl rfl) (fun w2 u0 hb h0 => by obtain rfl := h0; exact (qof_any _ _ _ (ze8.drew.below hb) (la.mono (by decide))).mono fun e w3 h => RetP.pd h)) ?_
                  refine And.intro (ob_move rfl (wt_dep (c := true) (b := true) (g := 11) rfl (by kernel_rfl) rfl rfl rfl (by exact fun _ _ h => h)) (ev_far rfl rfl) (fun _ _ h => h)) ?_
                  refine And.intro (ob_move rfl (wt_dep (c := true) (b := true) (g := 11) rfl (by kernel_rfl) rfl rfl rfl (by exact fun _ _ h => h)) (ev_far rfl rfl) (fun _ _ h => h)) ?_
                  refine And.intro (ob_indexAddr rfl (wt_dep (c := true) (b := true) (g := 11) rfl (by kernel_rfl) rfl rfl rfl (by exact fun _ _ h => h)) (ev_dep (j := 18) (by kernel_rfl) rfl rfl) (ev_dep (j := 19) (by kernel_rfl) rfl rfl) (fun _ _ _ hx hy => ⟨_, by rw [hx, hy]; exact index3 (k := k) Tryz.underlying22 (by kernel_rfl) hlte9 _, rfl⟩)) ?_
                  refine And.intro (ob_load rfl (wt_dep (c := true) (b := true) (g := 11) rfl (by kernel_rfl) rfl rfl rfl (by exact fun _ _ h => h)) (ev_dep (j := 20) (by kernel_rfl) rfl rfl) (fun w2 hb => load3 Tryz.underlying28 rfl (by kernel_rfl) ((hb.cell (World.block_lt_of_cell? w10 _ ze90)).trans ze90) ((hb.cell (World.block_lt_of_cell? w10 _ ze91)).trans ze91) ((hb.cell (World.block_lt_of_cell? w10 _ ze92)).trans ze92)) (fun _ _ => rfl)) ?_
                  refine And.intro (ob_call1 rfl Tryz.func22 (by kernel_rfl) (wt_dep (c := true) (b := true) (g := 11) rfl (by kernel_rfl) rfl rfl rfl (by exact fun _ _ h => h)) (ev_dep (j := 21) (by kernel_rfl) rfl rfl) (fun w2 u0 hb h0 => by obtain rfl := h0; exact (qof_any _ _ _ (ze9.drew.below hb) (lb.mono (by decide))).mono fun e w3 h => RetP.pd h)) ?_
                  refine And.intro (ob_call2 rfl Tryz.func26 (by kernel_rfl) (wt_dep (c := true) (b := true) (g := 11) rfl (by kernel_rfl) rfl rfl rfl (by exact fun _ _ h => h)) (ev_dep (j := 17) (by kernel_rfl) rfl rfl) (ev_dep (j := 22) (by kernel_rfl) rfl rfl) (fun w2 u0 u1 hb h0 h1 => by exact (qcmp_any _ (a) _ (b) _ _ h0 h1 (la.mono (by decide)) (lb.mono (by decide)) rfl).mono fun e w3 h => RetV.pd h)) ?_
                  refine And.intro (ob_bin rfl (wt_dep (c := true) (b := true) (g := 11) rfl (by kernel_rfl) rfl rfl rfl (by exact fun _ _ h => h)) (ev_dep (j := 23) (by kernel_rfl) rfl rfl) (ev_const _) (fun _ _ _ hx hy => ⟨.bool false, by rw [hx, hy, bin_gtr_int, decide_eq_false HLE.out], rfl⟩)) ?_
                  refine And.intro (ob_pick (b := true) rfl (wt_dep (c := false) (b := false) (g := 8) rfl (by kernel_rfl) rfl rfl rfl (by exact fun _ _ h => h)) (ev_dep (j := 11) (by kernel_rfl) rfl rfl) (ev_dep (j := 24) (by kernel_rfl) rfl rfl) (fun _ _ h => h)) ?_
                  refine And.intro (ob_pick (b := false) rfl (wt_none rfl) (ev_dep (j := 8) (by kernel_rfl) rfl rfl) (ev_dep (j := 25) (by kernel_rfl) rfl rfl) (fun _ _ h => h)) ?_
                  trivial
                case done93 =>
                  refine fun w11 hb11 v0 h0 v1 h1 v2 h2 v3 h3 v4 h4 v5 h5 v6 h6 v7 h7 v8 h8 v9 h9 v10 h10 v11 h11 v12 h12 v13 h13 v14 h14 v15 h15 v16 h16 v17 h17 v18 h18 v19 h19 v20 h20 v21 h21 v22 h22 v23 h23 v24 h24 v25 h25 v26 h26 b hbf => ?_
                  obtain rfl := h0; obtain rfl := h1; obtain rfl := h2; obtain rfl := h3; obtain rfl := h4; obtain rfl := h6; obtain rfl := h7; obtain rfl := h8; obtain rfl := h9; obtain rfl := h10; obtain rfl := h11; obtain rfl := h12; obtain rfl := h13; obtain rfl := h14; obtain rfl := h15; obtain rfl := h16; obtain rfl := h18; obtain rfl := h19; obtain rfl := h20; obtain rfl := h21; obtain rfl := h23; obtain rfl := h24; obtain rfl := h25; obtain rfl := h26
                  have q5 := h5
                  have q17 := h17
                  have q22 := h22
                  simp only [Act.put, List.setIfInBounds_toArray, List.set_cons_zero, List.set_cons_succ] at hbf
                  subst hbf
                  replace Blo := Blo.below hb11
                  replace klos := klos.below hb11
                  replace klod := klod.below hb11
                  replace kloz := kloz.below hb11
                  replace klo := klo.below hb11
                  replace Bhi := Bhi.below hb11
                  replace khis := khis.below hb11
                  replace khid := khid.below hb11
                  replace khiz := khiz.below hb11
                  replace khi := khi.below hb11
                  replace Bs2 := Bs2.below hb11
                  replace ks2s := ks2s.below hb11
                  replace ks2d := ks2d.below hb11
                  replace ks2z := ks2z.below hb11
                  replace ks2 := ks2.below hb11
                  replace hV := hV.below hb11
                  replace hU := hU.below hb11
                  replace hS := hS.below hb11
                  replace hR := hR.below hb11
                  replace bb := bb.trans (hb11.mono bb.size)
                  have hsz11 := bb.size
                  refine any_done (by kernel_rfl) ?_
                  go_wp2
                  go_loopw [12, 13] (fun v12 v13 wr => ∃ j : Nat, j ≤ qs.length ∧ Below w11.heap.size w11 wr ∧ v12 = .int .i64 ((((ss.take j).count x : Nat) : Int) - (((qs.take j).count x : Nat) : Int)) ∧ v13 = .int .i64 (j : Int)) (fun _ v13 _ => qs.length - (RowKit.intOf v13).toNat)
                  case atStart => exact ⟨0, by omega, Below.refl _ _, by simp, rfl⟩
                  case round =>
                    obtain ⟨j, hj, hbj, rfl, rfl⟩ := hrel
                    replace Blo := Blo.below hbj
                    replace klos := klos.below hbj
                    replace klod := klod.below hbj
                    replace kloz := kloz.below hbj
                    replace klo := klo.below hbj
                    replace Bhi := Bhi.below hbj
                    replace khis := khis.below hbj
                    replace khid := khid.below hbj
                    replace khiz := khiz.below hbj
                    replace khi := khi.below hbj
                    replace Bs2 := Bs2.below hbj
                    replace ks2s := ks2s.below hbj
                    replace ks2d := ks2d.below hbj
                    replace ks2z := ks2z.below hbj
                    replace ks2 := ks2.below hbj
                    replace hV := hV.below hbj
                    replace hU := hU.below hbj
                    replace hS := hS.below hbj
                    replace hR := hR.below hbj
                    replace bb := bb.trans (hbj.mono bb.size)
                    have hsz12 := bb.size
                    have hbJ := hbj
                    obtain ⟨n1, hn1⟩ : ∃ n, n = (ss.take j).count x := ⟨_, rfl⟩
                    obtain ⟨n2, hn2⟩ : ∃ n, n = (qs.take j).count x := ⟨_, rfl⟩
                    have hc1 : n1 ≤ j := by rw [hn1]; exact Nat.le_trans List.count_le_length (by rw [List.length_take]; omega)
                    have hc2 : n2 ≤ j := by rw [hn2]; exact Nat.le_trans List.count_le_length (by rw [List.length_take]; omega)
                    rw [← hn1, ← hn2]
                    have HC1 := Lib.hid hn1
                    have HC2 := Lib.hid hn2
                    clear hn1 hn2
                    by_cases hjl : j < qs.length
                    · have hjl2 : j < ss.length := by have := HSL.out; omega
                      obtain ⟨p, hp⟩ : ∃ p, ss[j]? = some p := ⟨_, List.getElem?_eq_getElem hjl2⟩
                      obtain ⟨r, hr⟩ : ∃ r, qs[j]? = some r := ⟨_, List.getElem?_eq_getElem hjl⟩
                      have lp : lenQ p 2 := hq2 _ (HSO.out.1.mem_iff.1 (List.mem_of_getElem? hp))
                      have lr : lenQ r 2 := hq2 _ (List.mem_of_getElem? hr)
                      have HPJ := Lib.hid hp
                      have HRJ := Lib.hid hr
                      clear hp hr
                      by_cases d1 : p = x
                      · by_cases d2 : r = x
                        · have HB1 : Hid (true = decide (p = x)) := (decide_eq_true d1).symm
                          have HB2 : Hid (true = decide (r = x)) := (decide_eq_true d2).symm
                          have HN1 : Hid ((ss.take (j + 1)).count x = n1 + 1) := by show _ = _; rw [count_snoc HPJ.out, ← HC1.out, if_pos d1]
                          have HN2 : Hid ((qs.take (j + 1)).count x = n2 + 1) := by show _ = _; rw [count_snoc HRJ.out, ← HC2.out, if_pos d2]
                          clear d1 d2
                          obtain ⟨ue4, te4, hlte4, ze40, ze41, ze42, ze4s, ze4d⟩ := hS.at2 HPJ.out
                          obtain ⟨Ae4, ce4, rfl, _⟩ := id ze4s
                          obtain ⟨De4, ee4, rfl, _⟩ := id ze4d
                          have ze4 : IsQ wr (.agg #[.bool (ngB (p).num), .slice Ae4 (digs 4294967296 (p).num.natAbs).length ce4, .slice De4 (digs 4294967296 (p).den).length ee4]) (p) := ⟨_, _, rfl, ze4s, ze4d⟩
                          obtain ⟨ue5, te5, hlte5, ze50, ze51, ze52, ze5s, ze5d⟩ := hU.at2 HX.out
                          obtain ⟨Ae5, ce5, rfl, _⟩ := id ze5s
                          obtain ⟨De5, ee5, rfl, _⟩ := id ze5d
                          have ze5 : IsP wr (.agg #[.bool (ngB (x).num), .slice Ae5 (digs 10000 (x).num.natAbs).length ce5, .slice De5 (digs 10000 (x).den).length ee5]) (x) := ⟨_, _, rfl, ze5s, ze5d⟩
                          go_upto_region 19 with (fail)
                          refine flow 10 [Pd.eq (.slice (some ⟨gS_, oS_, none⟩) qs.length cS_), Pd.eq (.int .i64 (j : Int)), Pd.eq (.pointer (some ⟨gS_, oS_ + j * 3, none⟩)), Pd.eq (.agg #[.bool (ngB (p).num), .slice Ae4 (digs 4294967296 (p).num.natAbs).length ce4, .slice De4 (digs 4294967296 (p).den).length ee4]), Pd.eq (.slice (some ⟨gU_, oU_, none⟩) qs.length cU_), Pd.eq (.int .i64 (k : Int)), Pd.eq (.pointer (some ⟨gU_, oU_ + k * 3, none⟩)), Pd.eq (.agg #[.bool (ngB (x).num), .slice Ae5 (digs 10000 (x).num.natAbs).length ce5, .slice De5 (digs 10000 (x).den).length ee5]), pqn (x), Pd.eq (.bool true)] (by kernel_rfl) (by kernel_rfl) ?ob94 ?done94
                          case ob94 =>
                            refine And.intro (ob_move rfl (wt_none rfl) (ev_far rfl rfl) (fun _ _ h => h)) ?_
                            refine And.intro (ob_move rfl (wt_none rfl) (ev_far rfl rfl) (fun _ _ h => h)) ?_
                            refine And.intro (ob_indexAddr rfl (wt_none rfl) (ev_dep (j := 0) (by kernel_rfl) rfl rfl) (ev_dep (j := 1) (by kernel_rfl) rfl rfl) (fun _ _ _ hx hy => ⟨_, by rw [hx, hy]; exact index3 (k := j) Tryz.underlying22 (by kernel_rfl) hlte4 _, rfl⟩)) ?_
                            refine And.intro (ob_load rfl (wt_none rfl) (ev_dep (j := 2) (by kernel_rfl) rfl rfl) (fun w2 hb => load3 Tryz.underlying28 rfl (by kernel_rfl) ((hb.cell (World.block_lt_of_cell? wr _ ze40)).trans ze40) ((hb.cell (World.block_lt_of_cell? wr _ ze41)).trans ze41) ((hb.cell (World.block_lt_of_cell? wr _ ze42)).trans ze42)) (fun _ _ => rfl)) ?_
                            refine And.intro (ob_move rfl (wt_none rfl) (ev_far rfl rfl) (fun _ _ h => h)) ?_
                            refine And.intro (ob_move rfl (wt_none rfl) (ev_far rfl rfl) (fun _ _ h => h)) ?_
                            refine And.intro (ob_indexAddr rfl (wt_none rfl) (ev_dep (j := 4) (by kernel_rfl) rfl rfl) (ev_dep (j := 5) (by kernel_rfl) rfl rfl) (fun _ _ _ hx hy => ⟨_, by rw [hx, hy]; exact index3 (k := k) Tryz.underlying29 (by kernel_rfl) hlte5 _, rfl⟩)) ?_
                            refine And.intro (ob_load rfl (wt_none rfl) (ev_dep (j := 6) (by kernel_rfl) rfl rfl) (fun w2 hb => load3 Tryz.underlying41 rfl (by kernel_rfl) ((hb.cell (World.block_lt_of_cell? wr _ ze50)).trans ze50) ((hb.cell (World.block_lt_of_cell? wr _ ze51)).trans ze51) ((hb.cell (World.block_lt_of_cell? wr _ ze52)).trans ze52)) (fun _ _ => rfl)) ?_
                            refine And.intro (ob_call1 rfl Tryz.func13 (by kernel_rfl) (wt_none rfl) (ev_dep (j := 7) (by kernel_rfl) rfl rfl) (fun w2 u0 hb h0 => by obtain rfl := h0; exact (qback_any _ _ _ (ze5.drew.below hb) (lx.mono (by decide))).mono fun e w3 h => RetQn.pd (RetQ.n h))) ?_
                            refine And.intro (ob_call2 rfl Tryz.func11 (by kernel_rfl) (wt_none rfl) (ev_dep (j := 3) (by kernel_rfl) rfl rfl) (ev_dep (j := 8) (by kernel_rfl) rfl rfl) (fun w2 u0 u1 hb h0 h1 => by obtain rfl := h0; exact (qsame_any _ _ (p) (x) true _ (ze4.drew.below hb) h1 HB1.out).mono fun e w3 h => RetV.pd h)) ?_
                            trivial
                          case done94 =>
                            refine fun w13 hb13 v0 h0 v1 h1 v2 h2 v3 h3 v4 h4 v5 h5 v6 h6 v7 h7 v8 h8 v9 h9 b hbf => ?_
                            obtain rfl := h0; obtain rfl := h1; obtain rfl := h2; obtain rfl := h3; obtain rfl := h4; obtain rfl := h5; obtain rfl := h6; obtain rfl := h7; obtain rfl := h9
                            have q8 := h8
                            simp only [Act.put, List.setIfInBounds_toArray, List.set_cons_zero, List.set_cons_succ] at hbf
                            subst hbf
                            replace Blo := Blo.below hb13
                            replace klos := klos.below hb13
                            replace klod := klod.below hb13
                            replace kloz := kloz.below hb13
                            replace klo := klo.below hb13
                            replace Bhi := Bhi.below hb13
                            replace khis := khis.below hb13
                            replace khid := khid.below hb13
                            replace khiz := khiz.below hb13
                            replace khi := khi.below hb13
                            replace Bs2 := Bs2.below hb13
                            replace ks2s := ks2s.below hb13
                            replace ks2d := ks2d.below hb13
                            replace ks2z := ks2z.below hb13
                            replace ks2 := ks2.below hb13
                            replace hV := hV.below hb13
                            replace hU := hU.below hb13
                            replace hS := hS.below hb13
                            replace hR := hR.below hb13
                            replace bb := bb.trans (hb13.mono bb.size)
                            have hsz13 := bb.size
                            replace hbJ := hbJ.trans (hb13.mono hbJ.size)
                            refine any_done (by kernel_rfl) ?_
                            obtain ⟨ue6, te6, hlte6, ze60, ze61, ze62, ze6s, ze6d⟩ := hV.at2 HRJ.out
                            obtain ⟨Ae6, ce6, rfl, _⟩ := id ze6s
                            obtain ⟨De6, ee6, rfl, _⟩ := id ze6d
                            have ze6 : IsQ w13 (.agg #[.bool (ngB (r).num), .slice Ae6 (digs 4294967296 (r).num.natAbs).length ce6, .slice De6 (digs 4294967296 (r).den).length ee6]) (r) := ⟨_, _, rfl, ze6s, ze6d⟩
                            obtain ⟨ue7, te7, hlte7, ze70, ze71, ze72, ze7s, ze7d⟩ := hV.at2 HX.out
                            obtain ⟨Ae7, ce7, rfl, _⟩ := id ze7s
                            obtain ⟨De7, ee7, rfl, _⟩ := id ze7d
                            have ze7 : IsQ w13 (.agg #[.bool (ngB (x).num), .slice Ae7 (digs 4294967296 (x).num.natAbs).length ce7, .slice De7 (digs 4294967296 (x).den).length ee7]) (x) := ⟨_, _, rfl, ze7s, ze7d⟩
                            go_upto_region 21 with (fail)
                            refine flow 9 [Pd.eq (.slice (some ⟨gV_, oV_, none⟩) qs.length cV_), Pd.eq (.int .i64 (j : Int)), Pd.eq (.pointer (some ⟨gV_, oV_ + j * 3, none⟩)), Pd.eq (.agg #[.bool (ngB (r).num), .slice Ae6 (digs 4294967296 (r).num.natAbs).length ce6, .slice De6 (digs 4294967296 (r).den).length ee6]), Pd.eq (.slice (some ⟨gV_, oV_, none⟩) qs.length cV_), Pd.eq (.int .i64 (k : Int)), Pd.eq (.pointer (some ⟨gV_, oV_ + k * 3, none⟩)), Pd.eq (.agg #[.bool (ngB (x).num), .slice Ae7 (digs 4294967296 (x).num.natAbs).length ce7, .slice De7 (digs 4294967296 (x).den).length ee7]), Pd.eq (.bool true)] (by kernel_rfl) (by kernel_rfl) ?ob95 ?done95
                            case ob95 =>
                              refine And.intro (ob_move rfl (wt_none rfl) (ev_far rfl rfl) (fun _ _ h => h)) ?_
                              refine And.intro (ob_move rfl (wt_none rfl) (ev_far rfl rfl) (fun _ _ h => h)) ?_
                              refine And.intro (ob_indexAddr rfl (wt_none rfl) (ev_dep (j := 0) (by kernel_rfl) rfl rfl) (ev_dep (j := 1) (by kernel_rfl) rfl rfl) (fun _ _ _ hx hy => ⟨_, by rw [hx, hy]; exact index3 (k := j) Tryz.underlying22 (by kernel_rfl) hlte6 _, rfl⟩)) ?_
                              refine And.intro (ob_load rfl (wt_none rfl) (ev_dep (j := 2) (by kernel_rfl) rfl rfl) (fun w2 hb => load3 Tryz.underlying28 rfl (by kernel_rfl) ((hb.cell (World.block_lt_of_cell? w13 _ ze60)).trans ze60) ((hb.cell (World.block_lt_of_cell? w13 _ ze61)).trans ze61) ((hb.cell (World.block_lt_of_cell? w13 _ ze62)).trans ze62)) (fun _ _ => rfl)) ?_
                              refine And.intro (ob_move rfl (wt_none rfl) (ev_far rfl rfl) (fun _ _ h => h)) ?_
                              refine And.intro (ob_move rfl (wt_none rfl) (ev_far rfl rfl) (fun _ _ h => h)) ?_
                              refine And.intro (ob_indexAddr rfl (wt_none rfl) (ev_dep (j := 4) (by kernel_rfl) rfl rfl) (ev_dep (j := 5) (by kernel_rfl) rfl rfl) (fun _ _ _ hx hy => ⟨_, by rw [hx, hy]; exact index3 (k := k) Tryz.underlying22 (by kernel_rfl) hlte7 _, rfl⟩)) ?_
                              refine And.intro (ob_load rfl (wt_none rfl) (ev_dep (j := 6) (by kernel_rfl) rfl rfl) (fun w2 hb => load3 Tryz.underlying28 rfl (by kernel_rfl) ((hb.cell (World.block_lt_of_cell? w13 _ ze70)).trans ze70) ((hb.cell (World.block_lt_of_cell? w13 _ ze71)).trans ze71) ((hb.cell (World.block_lt_of_cell? w13 _ ze72)).trans ze72)) (fun _ _ => rfl)) ?_
                              refine And.intro (ob_call2 rfl Tryz.func11 (by kernel_rfl) (wt_none rfl) (ev_dep (j := 3) (by kernel_rfl) rfl rfl) (ev_dep (j := 7) (by kernel_rfl) rfl rfl) (fun w2 u0 u1 hb h0 h1 => by obtain rfl := h0; obtain rfl := h1; exact (qsame_any _ _ (r) (x) true _ (ze6.drew.below hb) (ze7.drew.below hb) HB2.out).mono fun e w3 h => RetV.pd h)) ?_
                              trivial
                            case done95 =>
                              refine fun w14 hb14 v0 h0 v1 h1 v2 h2 v3 h3 v4 h4 v5 h5 v6 h6 v7 h7 v8 h8 b hbf => ?_
                              obtain rfl := h0; obtain rfl := h1; obtain rfl := h2; obtain rfl := h3; obtain rfl := h4; obtain rfl := h5; obtain rfl := h6; obtain rfl := h7; obtain rfl := h8
                              simp only [Act.put, List.setIfInBounds_toArray, List.set_cons_zero, List.set_cons_succ] at hbf
                              subst hbf
                              replace Blo := Blo.below hb14
                              replace klos := klos.below hb14
                              replace klod := klod.below hb14
                              replace kloz := kloz.below hb14
                              replace klo := klo.below hb14
                              replace Bhi := Bhi.below hb14
                              replace khis := khis.below hb14
                              replace khid := khid.below hb14
                              replace khiz := khiz.below hb14
                              replace khi := khi.below hb14
                              replace Bs2 := Bs2.below hb14
                              replace ks2s := ks2s.below hb14
                              replace ks2d := ks2d.below hb14
                              replace ks2z := ks2z.below hb14
                              replace ks2 := ks2.below hb14
                              replace hV := hV.below hb14
                              replace hU := hU.below hb14
                              replace hS := hS.below hb14
                              replace hR := hR.below hb14
                              replace bb := bb.trans (hb14.mono bb.size)
                              have hsz14 := bb.size
                              replace hbJ := hbJ.trans (hb14.mono hbJ.size)
                              refine any_done (by kernel_rfl) ?_
                              have hsk : qs.length - (j + 1) < qs.length - j := by omega
                              have HBJ := hbJ
                              clear hbJ
                              go_wp2
                              go_roundw
                              case rel => exact ⟨j + 1, by omega, HBJ, (by rw [HN1.out, HN2.out]; go_num), by go_num⟩
                              case measure => simp [RowKit.intOf]; omega
                        · have HB1 : Hid (true = decide (p = x)) := (decide_eq_true d1).symm
                          have HB2 : Hid (false = decide (r = x)) := (decide_eq_false d2).symm
                          have HN1 : Hid ((ss.take (j + 1)).count x = n1 + 1) := by show _ = _; rw [count_snoc HPJ.out, ← HC1.out, if_pos d1]
                          have HN2 : Hid ((qs.take (j + 1)).count x = n2 + 0) := by show _ = _; rw [count_snoc HRJ.out, ← HC2.out, if_neg d2]
                          clear d1 d2
                          obtain ⟨ue4, te4, hlte4, ze40, ze41, ze42, ze4s, ze4d⟩ := hS.at2 HPJ.out
                          obtain ⟨Ae4, ce4, rfl, _⟩ := id ze4s
                          obtain ⟨De4, ee4, rfl, _⟩ := id ze4d
                          have ze4 : IsQ wr (.agg #[.bool (ngB (p).num), .slice Ae4 (digs 4294967296 (p).num.natAbs).length ce4, .slice De4 (digs 4294967296 (p).den).length ee4]) (p) := ⟨_, _, rfl, ze4s, ze4d⟩
                          obtain ⟨ue5, te5, hlte5, ze50, ze51, ze52, ze5s, ze5d⟩ := hU.at2 HX.out
                          obtain ⟨Ae5, ce5, rfl, _⟩ := id ze5s
                          obtain ⟨De5, ee5, rfl, _⟩ := id ze5d
                          have ze5 : IsP wr (.agg #[.bool (ngB (x).num), .slice Ae5 (digs 10000 (x).num.natAbs).length ce5, .slice De5 (digs 10000 (x).den).length ee5]) (x) := ⟨_, _, rfl, ze5s, ze5d⟩
                          go_upto_region 19 with (fail)
                          refine flow 10 [Pd.eq (.slice (some ⟨gS_, oS_, none⟩) qs.length cS_), Pd.eq (.int .i64 (j : Int)), Pd.eq (.pointer (some ⟨gS_, oS_ + j * 3, none⟩)), Pd.eq (.agg #[.bool (ngB (p).num), .slice Ae4 (digs 4294967296 (p).num.natAbs).length ce4, .slice De4 (digs 4294967296 (p).den).length ee4]), Pd.eq (.slice (some ⟨gU_, oU_, none⟩) qs.length cU_), Pd.eq (.int .i64 (k : Int)), Pd.eq (.pointer (some ⟨gU_, oU_ + k * 3, none⟩)), Pd.eq (.agg #[.bool (ngB (x).num), .slice Ae5 (digs 10000 (x).num.natAbs).length ce5, .slice De5 (digs 10000 (x).den).length ee5]), pqn (x), Pd.eq (.bool true)] (by kernel_rfl) (by kernel_rfl) ?ob96 ?done96
                          case ob96 =>
                            refine And.intro (ob_move rfl (wt_none rfl) (ev_far rfl rfl) (fun _ _ h => h)) ?_
                            refine And.intro (ob_move rfl (wt_none rfl) (ev_far rfl rfl) (fun _ _ h => h)) ?_
                            refine And.intro (ob_indexAddr rfl (wt_none rfl) (ev_dep (j := 0) (by kernel_rfl) rfl rfl) (ev_dep (j := 1) (by kernel_rfl) rfl rfl) (fun _ _ _ hx hy => ⟨_, by rw [hx, hy]; exact index3 (k := j) Tryz.underlying22 (by kernel_rfl) hlte4 _, rfl⟩)) ?_
                            refine And.intro (ob_load rfl (wt_none rfl) (ev_dep (j := 2) (by kernel_rfl) rfl rfl) (fun w2 hb => load3 Tryz.underlying28 rfl (by kernel_rfl) ((hb.cell (World.block_lt_of_cell? wr _ ze40)).trans ze40) ((hb.cell (World.block_lt_of_cell? wr _ ze41)).trans ze41) ((hb.cell (World.block_lt_of_cell? wr _ ze42)).trans ze42)) (fun _ _ => rfl)) ?_
                            refine And.intro (ob_move rfl (wt_none rfl) (ev_far rfl rfl) (fun _ _ h => h)) ?_
                            refine And.intro (ob_move rfl (wt_none rfl) (ev_far rfl rfl) (fun _ _ h => h)) ?_
                            refine And.intro (ob_indexAddr rfl (wt_none rfl) (ev_dep (j := 4) (by kernel_rfl) rfl rfl) (ev_dep (j := 5) (by kernel_rfl) rfl rfl) (fun _ _ _ hx hy => ⟨_, by rw [hx, hy]; exact index3 (k := k) Tryz.underlying29 (by kernel_rfl) hlte5 _, rfl⟩)) ?_
                            refine And.intro (ob_load rfl (wt_none rfl) (ev_dep (j := 6) (by kernel_rfl) rfl rfl) (fun w2 hb => load3 Tryz.underlying41 rfl (by kernel_rfl) ((hb.cell (World.block_lt_of_cell? wr _ ze50)).trans ze50) ((hb.cell (World.block_lt_of_cell? wr _ ze51)).trans ze51) ((hb.cell (World.block_lt_of_cell? wr _ ze52)).trans ze52)) (fun _ _ => rfl)) ?_
                            refine And.intro (ob_call1 rfl Tryz.func13 (by kernel_rfl) (wt_none rfl) (ev_dep (j := 7) (by kernel_rfl) rfl rfl) (fun w2 u0 hb h0 => by obtain rfl := h0; exact (qback_any _ _ _ (ze5.drew.below hb) (lx.mono (by decide))).mono fun e w3 h => RetQn.pd (RetQ.n h))) ?_
                            refine And.intro (ob_call2 rfl Tryz.func11 (by kernel_rfl) (wt_none rfl) (ev_dep (j := 3) (by kernel_rfl) rfl rfl) (ev_dep (j := 8) (by kernel_rfl) rfl rfl) (fun w2 u0 u1 hb h0 h1 => by obtain rfl := h0; exact (qsame_any _ _ (p) (x) true _ (ze4.drew.below hb) h1 HB1.out).mono fun e w3 h => RetV.pd h)) ?_
                            trivial
                          case done96 =>
                            refine fun w13 hb13 v0 h0 v1 h1 v2 h2 v3 h3 v4 h4 v5 h5 v6 h6 v7 h7 v8 h8 v9 h9 b hbf => ?_
                            obtain rfl := h0; obtain rfl := h1; obtain rfl := h2; obtain rfl := h3; obtain rfl := h4; obtain rfl := h5; obtain rfl := h6; obtain rfl := h7; obtain rfl := h9
                            have q8 := h8
                            simp only [Act.put, List.setIfInBounds_toArray, List.set_cons_zero, List.set_cons_succ] at hbf
                            subst hbf
                            replace Blo := Blo.below hb13
                            replace klos := klos.below hb13
                            replace klod := klod.below hb13
                            replace kloz := kloz.below hb13
                            replace klo := klo.below hb13
                            replace Bhi := Bhi.below hb13
                            replace khis := khis.below hb13
                            replace khid := khid.below hb13
                            replace khiz := khiz.below hb13
                            replace khi := khi.below hb13
                            replace Bs2 := Bs2.below hb13
                            replace ks2s := ks2s.below hb13
                            replace ks2d := ks2d.below hb13
                            replace ks2z := ks2z.below hb13
                            replace ks2 := ks2.below hb13
                            replace hV := hV.below hb13
                            replace hU := hU.below hb13
                            replace hS := hS.below hb13
                            replace hR := hR.below hb13
                            replace bb := bb.trans (hb13.mono bb.size)
                            have hsz13 := bb.size
                            replace hbJ := hbJ.trans (hb13.mono hbJ.size)
                            refine any_done (by kernel_rfl) ?_
                            obtain ⟨ue6, te6, hlte6, ze60, ze61, ze62, ze6s, ze6d⟩ := hV.at2 HRJ.out
                            obtain ⟨Ae6, ce6, rfl, _⟩ := id ze6s
                            obtain ⟨De6, ee6, rfl, _⟩ := id ze6d
                            have ze6 : IsQ w13 (.agg #[.bool (ngB (r).num), .slice Ae6 (digs 4294967296 (r).num.natAbs).length ce6, .slice De6 (digs 4294967296 (r).den).length ee6]) (r) := ⟨_, _, rfl, ze6s, ze6d⟩
                            obtain ⟨ue7, te7, hlte7, ze70, ze71, ze72, ze7s, ze7d⟩ := hV.at2 HX.out
                            obtain ⟨Ae7, ce7, rfl, _⟩ := id ze7s
                            obtain ⟨De7, ee7, rfl, _⟩ := id ze7d
                            have ze7 : IsQ w13 (.agg #[.bool (ngB (x).num), .slice Ae7 (digs 4294967296 (x).num.natAbs).length ce7, .slice De7 (digs 4294967296 (x).den).length ee7]) (x) := ⟨_, _, rfl, ze7s, ze7d⟩
                            go_upto_region 21 with (fail)
                            refine flow 9 [Pd.eq (.slice (some ⟨gV_, oV_, none⟩) qs.length cV_), Pd.eq (.int .i64 (j : Int)), Pd.eq (.pointer (some ⟨gV_, oV_ + j * 3, none⟩)), Pd.eq (.agg #[.bool (ngB (r).num), .slice Ae6 (digs 4294967296 (r).num.natAbs).length ce6, .slice De6 (digs 4294967296 (r).den).length ee6]), Pd.eq (.slice (some ⟨gV_, oV_, none⟩) qs.length cV_), Pd.eq (.int .i64 (k : Int)), Pd.eq (.pointer (some ⟨gV_, oV_ + k * 3, none⟩)), Pd.eq (.agg #[.bool (ngB (x).num), .slice Ae7 (digs 4294967296 (x).num.natAbs).length ce7, .slice De7 (digs 4294967296 (x).den).length ee7]), Pd.eq (.bool false)] (by kernel_rfl) (by kernel_rfl) ?ob97 ?done97
                            case ob97 =>
                              refine And.intro (ob_move rfl (wt_none rfl) (ev_far rfl rfl) (fun _ _ h => h)) ?_
                              refine And.intro (ob_move rfl (wt_none rfl) (ev_far rfl rfl) (fun _ _ h => h)) ?_
                              refine And.intro (ob_indexAddr rfl (wt_none rfl) (ev_dep (j := 0) (by kernel_rfl) rfl rfl) (ev_dep (j := 1) (by kernel_rfl) rfl rfl) (fun _ _ _ hx hy => ⟨_, by rw [hx, hy]; exact index3 (k := j) Tryz.underlying22 (by kernel_rfl) hlte6 _, rfl⟩)) ?_
                              refine And.intro (ob_load rfl (wt_none rfl) (ev_dep (j := 2) (by kernel_rfl) rfl rfl) (fun w2 hb => load3 Tryz.underlying28 rfl (by kernel_rfl) ((hb.cell (World.block_lt_of_cell? w13 _ ze60)).trans ze60) ((hb.cell (World.block_lt_of_cell? w13 _ ze61)).trans ze61) ((hb.cell (World.block_lt_of_cell? w13 _ ze62)).trans ze62)) (fun _ _ => rfl)) ?_
                              refine And.intro (ob_move rfl (wt_none rfl) (ev_far rfl rfl) (fun _ _ h => h)) ?_
                              refine And.intro (ob_move rfl (wt_none rfl) (ev_far rfl rfl) (fun _ _ h => h)) ?_
                              refine And.intro (ob_indexAddr rfl (wt_none rfl) (ev_dep (j := 4) (by kernel_rfl) rfl rfl) (ev_dep (j := 5) (by kernel_rfl) rfl rfl) (fun _ _ _ hx hy => ⟨_, by rw [hx, hy]; exact index3 (k := k) Tryz.underlying22 (by kernel_rfl) hlte7 _, rfl⟩)) ?_
                              refine And.intro (ob_load rfl (wt_none rfl) (ev_dep (j := 6) (by kernel_rfl) rfl rfl) (fun w2 hb => load3 Tryz.underlying28 rfl (by kernel_rfl) ((hb.cell (World.block_lt_of_cell? w13 _ ze70)).trans ze70) ((hb.cell (World.block_lt_of_cell? w13 _ ze71)).trans ze71) ((hb.cell (World.block_lt_of_cell? w13 _ ze72)).trans ze72)) (fun _ _ => rfl)) ?_
                              refine And.intro (ob_call2 rfl Tryz.func11 (by kernel_rfl) (wt_none rfl) (ev_dep (j := 3) (by kernel_rfl) rfl rfl) (ev_dep (j := 7) (by kernel_rfl) rfl rfl) (fun w2 u0 u1 hb h0 h1 => by obtain rfl := h0; obtain rfl := h1; exact (qsame_any _ _ (r) (x) false _ (ze6.drew.below hb) (ze7.drew.below hb) HB2.out).mono fun e w3 h => RetV.pd h)) ?_
                              trivial
                            case done97 =>
                              refine fun w14 hb14 v0 h0 v1 h1 v2 h2 v3 h3 v4 h4 v5 h5 v6 h6 v7 h7 v8 h8 b hbf => ?_
                              obtain rfl := h0; obtain rfl := h1; obtain rfl := h2; obtain rfl := h3; obtain rfl := h4; obtain rfl := h5; obtain rfl := h6; obtain rfl := h7; obtain rfl := h8
                              simp only [Act.put, List.setIfInBounds_toArray, List.set_cons_zero, List.set_cons_succ] at hbf
                              subst hbf
                              replace Blo := Blo.below hb14
                              replace klos := klos.below hb14
                              replace klod := klod.below hb14
                              replace kloz := kloz.below hb14
                              replace klo := klo.below hb14
                              replace Bhi := Bhi.below hb14
                              replace khis := khis.below hb14
                              replace khid := khid.below hb14
                              replace khiz := khiz.below hb14
                              replace khi := khi.below hb14
                              replace Bs2 := Bs2.below hb14
                              replace ks2s := ks2s.below hb14
                              replace ks2d := ks2d.below hb14
                              replace ks2z := ks2z.below hb14
                              replace ks2 := ks2.below hb14
                              replace hV := hV.below hb14
                              replace hU := hU.below hb14
                              replace hS := hS.below hb14
                              replace hR := hR.below hb14
                              replace bb := bb.trans (hb14.mono bb.size)
                              have hsz14 := bb.size
                              replace hbJ := hbJ.trans (hb14.mono hbJ.size)
                              refine any_done (by kernel_rfl) ?_
                              have hsk : qs.length - (j + 1) < qs.length - j := by omega
                              have HBJ := hbJ
                              clear hbJ
                              go_wp2
                              go_roundw
                              case rel => exact ⟨j + 1, by omega, HBJ, (by rw [HN1.out, HN2.out]; go_num), by go_num⟩
                              case measure => simp [RowKit.intOf]; omega
                      · by_cases d2 : r = x
                        · have HB1 : Hid (false = decide (p = x)) := (decide_eq_false d1).symm
                          have HB2 : Hid (true = decide (r = x)) := (decide_eq_true d2).symm
                          have HN1 : Hid ((ss.take (j + 1)).count x = n1 + 0) := by show _ = _; rw [count_snoc HPJ.out, ← HC1.out, if_neg d1]
                          have HN2 : Hid ((qs.take (j + 1)).count x = n2 + 1) := by show _ = _; rw [count_snoc HRJ.out, ← HC2.out, if_pos d2]
                          clear d1 d2
                          obtain ⟨ue4, te4, hlte4, ze40, ze41, ze42, ze4s, ze4d⟩ := hS.at2 HPJ.out
                          obtain ⟨Ae4, ce4, rfl, _⟩ := id ze4s
                          obtain ⟨De4, ee4, rfl, _⟩ := id ze4d
                          have ze4 : IsQ wr (.agg #[.bool (ngB (p).num), .slice Ae4 (digs 4294967296 (p).num.natAbs).length ce4, .slice De4 (digs 4294967296 (p).den).length ee4]) (p) := ⟨_, _, rfl, ze4s, ze4d⟩
                          obtain ⟨ue5, te5, hlte5, ze50, ze51, ze52, ze5s, ze5d⟩ := hU.at2 HX.out
                          obtain ⟨Ae5, ce5, rfl, _⟩ := id ze5s
                          obtain ⟨De5, ee5, rfl, _⟩ := id ze5d
                          have ze5 : IsP wr (.agg #[.bool (ngB (x).num), .slice Ae5 (digs 10000 (x).num.natAbs).length ce5, .slice De5 (digs 10000 (x).den).length ee5]) (x) := ⟨_, _, rfl, ze5s, ze5d⟩
                          go_upto_region 19 with (fail)
                          refine flow 10 [Pd.eq (.slice (some ⟨gS_, oS_, none⟩) qs.length cS_), Pd.eq (.int .i64 (j : Int)), Pd.eq (.pointer (some ⟨gS_, oS_ + j * 3, none⟩)), Pd.eq (.agg #[.bool (ngB (p).num), .slice Ae4 (digs 4294967296 (p).num.natAbs).length ce4, .slice De4 (digs 4294967296 (p).den).length ee4]), Pd.eq (.slice (some ⟨gU_, oU_, none⟩) qs.length cU_), Pd.eq (.int .i64 (k : Int)), Pd.eq (.pointer (some ⟨gU_, oU_ + k * 3, none⟩)), Pd.eq (.agg #[.bool (ngB (x).num), .slice Ae5 (digs 10000 (x).num.natAbs).length ce5, .slice De5 (digs 10000 (x).den).length ee5]), pqn (x), Pd.eq (.bool false)] (by kernel_rfl) (by kernel_rfl) ?ob98 ?done98
                          case ob98 =>
                            refine And.intro (ob_move rfl (wt_none rfl) (ev_far rfl rfl) (fun _ _ h => h)) ?_
                            refine And.intro (ob_move rfl (wt_none rfl) (ev_far rfl rfl) (fun _ _ h => h)) ?_
                            refine And.intro (ob_indexAddr rfl (wt_none rfl) (ev_dep (j := 0) (by kernel_rfl) rfl rfl) (ev_dep (j := 1) (by kernel_rfl) rfl rfl) (fun _ _ _ hx hy => ⟨_, by rw [hx, hy]; exact index3 (k := j) Tryz.underlying22 (by kernel_rfl) hlte4 _, rfl⟩)) ?_
                            refine And.intro (ob_load rfl (wt_none rfl) (ev_dep (j := 2) (by kernel_rfl) rfl rfl) (fun w2 hb => load3 Tryz.underlying28 rfl (by kernel_rfl) ((hb.cell (World.block_lt_of_cell? wr _ ze40)).trans ze40) ((hb.cell (World.block_lt_of_cell? wr _ ze41)).trans ze41) ((hb.cell (World.block_lt_of_cell? wr _ ze42)).trans ze42)) (fun _ _ => rfl)) ?_
                            refine And.intro (ob_move rfl (wt_none rfl) (ev_far rfl rfl) (fun _ _ h => h)) ?_
                            refine And.intro (ob_move rfl (wt_none rfl) (ev_far rfl rfl) (fun _ _ h => h)) ?_
                            refine And.intro (ob_indexAddr rfl (wt_none rfl) (ev_dep (j := 4) (by kernel_rfl) rfl rfl) (ev_dep (j := 5) (by kernel_rfl) rfl rfl) (fun _ _ _ hx hy => ⟨_, by rw [hx, hy]; exact index3 (k := k) Tryz.underlying29 (by kernel_rfl) hlte5 _, rfl⟩)) ?_
                            refine And.intro (ob_load rfl (wt_none rfl) (ev_dep (j := 6) (by kernel_rfl) rfl rfl) (fun w2 hb => load3 Tryz.underlying41 rfl (by kernel_rfl) ((hb.cell (World.block_lt_of_cell? wr _ ze50)).trans ze50) ((hb.cell (World.block_lt_of_cell? wr _ ze51)).trans ze51) ((hb.cell (World.block_lt_of_cell? wr _ ze52)).trans ze52)) (fun _ _ => rfl)) ?_
                            refine And.intro (ob_call1 rfl Tryz.func13 (by kernel_rfl) (wt_none rfl) (ev_dep (j := 7) (by kernel_rfl) rfl rfl) (fun w2 u0 hb h0 => by obtain rfl := h0; exact (qback_any _ _ _ (ze5.drew.below hb) (lx.mono (by decide))).mono fun e w3 h => RetQn.pd (RetQ.n h))) ?_
                            refine And.intro (ob_call2 rfl Tryz.func11 (by kernel_rfl) (wt_none rfl) (ev_dep (j := 3) (by kernel_rfl) rfl rfl) (ev_dep (j := 8) (by kernel_rfl) rfl rfl) (fun w2 u0 u1 hb h0 h1 => by obtain rfl := h0; exact (qsame_any _ _ (p) (x) false _ (ze4.drew.below hb) h1 HB1.out).mono fun e w3 h => RetV.pd h)) ?_
                            trivial
                          case done98 =>
                            refine fun w13 hb13 v0 h0 v1 h1 v2 h2 v3 h3 v4 h4 v5 h5 v6 h6 v7 h7 v8 h8 v9 h9 b hbf => ?_
                            obtain rfl := h0; obtain rfl := h1; obtain rfl := h2; obtain rfl := h3; obtain rfl := h4; obtain rfl := h5; obtain rfl := h6; obtain rfl := h7; obtain rfl := h9
                            have q8 := h8
                            simp only [Act.put, List.setIfInBounds_toArray, List.set_cons_zero, List.set_cons_succ] at hbf
                            subst hbf
                            replace Blo := Blo.below hb13
                            replace klos := klos.below hb13
                            replace klod := klod.below hb13
                            replace kloz := kloz.below hb13
                            replace klo := klo.below hb13
                            replace Bhi := Bhi.below hb13
                            replace khis := khis.below hb13
                            replace khid := khid.below hb13
                            replace khiz := khiz.below hb13
                            replace khi := khi.below hb13
                            replace Bs2 := Bs2.below hb13
                            replace ks2s := ks2s.below hb13
                            replace ks2d := ks2d.below hb13
                            replace ks2z := ks2z.below hb13
                            replace ks2 := ks2.below hb13
                            replace hV := hV.below hb13
                            replace hU := hU.below hb13
                            replace hS := hS.below hb13
                            replace hR := hR.below hb13
                            replace bb := bb.trans (hb13.mono bb.size)
                            have hsz13 := bb.size
                            replace hbJ := hbJ.trans (hb13.mono hbJ.size)
                            refine any_done (by kernel_rfl) ?_
                            obtain ⟨ue6, te6, hlte6, ze60, ze61, ze62, ze6s, ze6d⟩ := hV.at2 HRJ.out
                            obtain ⟨Ae6, ce6, rfl, _⟩ := id ze6s
                            obtain ⟨De6, ee6, rfl, _⟩ := id ze6d
                            have ze6 : IsQ w13 (.agg #[.bool (ngB (r).num), .slice Ae6 (digs 4294967296 (r).num.natAbs).length ce6, .slice De6 (digs 4294967296 (r).den).length ee6]) (r) := ⟨_, _, rfl, ze6s, ze6d⟩
                            obtain ⟨ue7, te7, hlte7, ze70, ze71, ze72, ze7s, ze7d⟩ := hV.at2 HX.out
                            obtain ⟨Ae7, ce7, rfl, _⟩ := id ze7s
                            obtain ⟨De7, ee7, rfl, _⟩ := id ze7d
                            have ze7 : IsQ w13 (.agg #[.bool (ngB (x).num), .slice Ae7 (digs 4294967296 (x).num.natAbs).length ce7, .slice De7 (digs 4294967296 (x).den).length ee7]) (x) := ⟨_, _, rfl, ze7s, ze7d⟩
                            go_upto_region 21 with (fail)
                            refine flow 9 [Pd.eq (.slice (some ⟨gV_, oV_, none⟩) qs.length cV_), Pd.eq (.int .i64 (j : Int)), Pd.eq (.pointer (some ⟨gV_, oV_ + j * 3, none⟩)), Pd.eq (.agg #[.bool (ngB (r).num), .slice Ae6 (digs 4294967296 (r).num.natAbs).length ce6, .slice De6 (digs 4294967296 (r).den).length ee6]), Pd.eq (.slice (some ⟨gV_, oV_, none⟩) qs.length cV_), Pd.eq (.int .i64 (k : Int)), Pd.eq (.pointer (some ⟨gV_, oV_ + k * 3, none⟩)), Pd.eq (.agg #[.bool (ngB (x).num), .slice Ae7 (digs 4294967296 (x).num.natAbs).length ce7, .slice De7 (digs 4294967296 (x).den).length ee7]), Pd.eq (.bool true)] (by kernel_rfl) (by kernel_rfl) ?ob99 ?done99
                            case ob99 =>
                              refine And.intro (ob_move rfl (wt_none rfl) (ev_far rfl rfl) (fun _ _ h => h)) ?_
                              refine And.intro (ob_move rfl (wt_none rfl) (ev_far rfl rfl) (fun _ _ h => h)) ?_
                              refine And.intro (ob_indexAddr rfl (wt_none rfl) (ev_dep (j := 0) (by kernel_rfl) rfl rfl) (ev_dep (j := 1) (by kernel_rfl) rfl rfl) (fun _ _ _ hx hy => ⟨_, by rw [hx, hy]; exact index3 (k := j) Tryz.underlying22 (by kernel_rfl) hlte6 _, rfl⟩)) ?_
                              refine And.intro (ob_load rfl (wt_none rfl) (ev_dep (j := 2) (by kernel_rfl) rfl rfl) (fun w2 hb => load3 Tryz.underlying28 rfl (by kernel_rfl) ((hb.cell (World.block_lt_of_cell? w13 _ ze60)).trans ze60) ((hb.cell (World.block_lt_of_cell? w13 _ ze61)).trans ze61) ((hb.cell (World.block_lt_of_cell? w13 _ ze62)).trans ze62)) (fun _ _ => rfl)) ?_
                              refine And.intro (ob_move rfl (wt_none rfl) (ev_far rfl rfl) (fun _ _ h => h)) ?_
                              refine And.intro (ob_move rfl (wt_none rfl) (ev_far rfl rfl) (fun _ _ h => h)) ?_
                              refine And.intro (ob_indexAddr rfl (wt_none rfl) (ev_dep (j := 4) (by kernel_rfl) rfl rfl) (ev_dep (j := 5) (by kernel_rfl) rfl rfl) (fun _ _ _ hx hy => ⟨_, by rw [hx, hy]; exact index3 (k := k) Tryz.underlying22 (by kernel_rfl) hlte7 _, rfl⟩)) ?_
                              refine And.intro (ob_load rfl (wt_none rfl) (ev_dep (j := 6) (by kernel_rfl) rfl rfl) (fun w2 hb => load3 Tryz.underlying28 rfl (by kernel_rfl) ((hb.cell (World.block_lt_of_cell? w13 _ ze70)).trans ze70) ((hb.cell (World.block_lt_of_cell? w13 _ ze71)).trans ze71) ((hb.cell (World.block_lt_of_cell? w13 _ ze72)).trans ze72)) (fun _ _ => rfl)) ?_
                              refine And.intro (ob_call2 rfl Tryz.func11 (by kernel_rfl) (wt_none rfl) (ev_dep (j := 3) (by kernel_rfl) rfl rfl) (ev_dep (j := 7) (by kernel_rfl) rfl rfl) (fun w2 u0 u1 hb h0 h1 => by obtain rfl := h0; obtain rfl := h1; exact (qsame_any _ _ (r) (x) true _ (ze6.drew.below hb) (ze7.drew.below hb) HB2.out).mono fun e w3 h => RetV.pd h)) ?_
                              trivial
                            case done99 =>
                              refine fun w14 hb14 v0 h0 v1 h1 v2 h2 v3 h3 v4 h4 v5 h5 v6 h6 v7 h7 v8 h8 b hbf => ?_
                              obtain rfl := h0; obtain rfl := h1; obtain rfl := h2; obtain rfl := h3; obtain rfl := h4; obtain rfl := h5; obtain rfl := h6; obtain rfl := h7; obtain rfl := h8
                              simp only [Act.put, List.setIfInBounds_toArray, List.set_cons_zero, List.set_cons_succ] at hbf
                              subst hbf
                              replace Blo := Blo.below hb14
                              replace klos := klos.below hb14
                              replace klod := klod.below hb14
                              replace kloz := kloz.below hb14
                              replace klo := klo.below hb14
                              replace Bhi := Bhi.below hb14
                              replace khis := khis.below hb14
                              replace khid := khid.below hb14
                              replace khiz := khiz.below hb14
                              replace khi := khi.below hb14
                              replace Bs2 := Bs2.below hb14
                              replace ks2s := ks2s.below hb14
                              replace ks2d := ks2d.below hb14
                              replace ks2z := ks2z.below hb14
                              replace ks2 := ks2.below hb14
                              replace hV := hV.below hb14
                              replace hU := hU.below hb14
                              replace hS := hS.below hb14
                              replace hR := hR.below hb14
                              replace bb := bb.trans (hb14.mono bb.size)
                              have hsz14 := bb.size
                              replace hbJ := hbJ.trans (hb14.mono hbJ.size)
                              refine any_done (by kernel_rfl) ?_
                              have hsk : qs.length - (j + 1) < qs.length - j := by omega
                              have HBJ := hbJ
                              clear hbJ
                              go_wp2
                              go_roundw
                              case rel => exact ⟨j + 1, by omega, HBJ, (by rw [HN1.out, HN2.out]; go_num), by go_num⟩
                              case measure => simp [RowKit.intOf]; omega
                        · have HB1 : Hid (false = decide (p = x)) := (decide_eq_false d1).symm
                          have HB2 : Hid (false = decide (r = x)) := (decide_eq_false d2).symm
                          have HN1 : Hid ((ss.take (j + 1)).count x = n1 + 0) := by show _ = _; rw [count_snoc HPJ.out, ← HC1.out, if_neg d1]
                          have HN2 : Hid ((qs.take (j + 1)).count x = n2 + 0) := by show _ = _; rw [count_snoc HRJ.out, ← HC2.out, if_neg d2]
                          clear d1 d2
                          obtain ⟨ue4, te4, hlte4, ze40, ze41, ze42, ze4s, ze4d⟩ := hS.at2 HPJ.out
                          obtain ⟨Ae4, ce4, rfl, _⟩ := id ze4s
                          obtain ⟨De4, ee4, rfl, _⟩ := id ze4d
                          have ze4 : IsQ wr (.agg #[.bool (ngB (p).num), .slice Ae4 (digs 4294967296 (p).num.natAbs).length ce4, .slice De4 (digs 4294967296 (p).den).length ee4]) (p) := ⟨_, _, rfl, ze4s, ze4d⟩
                          obtain ⟨ue5, te5, hlte5, ze50, ze51, ze52, ze5s, ze5d⟩ := hU.at2 HX.out
                          obtain ⟨Ae5, ce5, rfl, _⟩ := id ze5s
                          obtain ⟨De5, ee5, rfl, _⟩ := id ze5d
                          have ze5 : IsP wr (.agg #[.bool (ngB (x).num), .slice Ae5 (digs 10000 (x).num.natAbs).length ce5, .slice De5 (digs 10000 (x).den).length ee5]) (x) := ⟨_, _, rfl, ze5s, ze5d⟩
                          go_upto_region 19 with (fail)
                          refine flow 10 [Pd.eq (.slice (some ⟨gS_, oS_, none⟩) qs.length cS_), Pd.eq (.int .i64 (j : Int)), Pd.eq (.pointer (some ⟨gS_, oS_ + j * 3, none⟩)), Pd.eq (.agg #[.bool (ngB (p).num), .slice Ae4 (digs 4294967296 (p).num.natAbs).length ce4, .slice De4 (digs 4294967296 (p).den).length ee4]), Pd.eq (.slice (some ⟨gU_, oU_, none⟩) qs.length cU_), Pd.eq (.int .i64 (k : Int)), Pd.eq (.pointer (some ⟨gU_, oU_ + k * 3, none⟩)), Pd.eq (.agg #[.bool (ngB (x).num), .slice Ae5 (digs 10000 (x).num.natAbs).length ce5, .slice De5 (digs 10000 (x).den).length ee5]), pqn (x), Pd.eq (.bool false)] (by kernel_rfl) (by kernel_rfl) ?ob100 ?done100
                          case ob100 =>
                            refine And.intro (ob_move rfl (wt_none rfl) (ev_far rfl rfl) (fun _ _ h => h)) ?_
                            refine And.intro (ob_move rfl (wt_none rfl) (ev_far rfl rfl) (fun _ _ h => h)) ?_
                            refine And.intro (ob_indexAddr rfl (wt_none rfl) (ev_dep (j := 0) (by kernel_rfl) rfl rfl) (ev_dep (j := 1) (by kernel_rfl) rfl rfl) (fun _ _ _ hx hy => ⟨_, by rw [hx, hy]; exact index3 (k := j) Tryz.underlying22 (by kernel_rfl) hlte4 _, rfl⟩)) ?_
                            refine And.intro (ob_load rfl (wt_none rfl) (ev_dep (j := 2) (by kernel_rfl) rfl rfl) (fun w2 hb => load3 Tryz.underlying28 rfl (by kernel_rfl) ((hb.cell (World.block_lt_of_cell? wr _ ze40)).trans ze40) ((hb.cell (World.block_lt_of_cell? wr _ ze41)).trans ze41) ((hb.cell (World.block_lt_of_cell? wr _ ze42)).trans ze42)) (fun _ _ => rfl)) ?_
                            refine And.intro (ob_move rfl (wt_none rfl) (ev_far rfl rfl) (fun _ _ h => h)) ?_
                            refine And.intro (ob_move rfl (wt_none rfl) (ev_far rfl rfl) (fun _ _ h => h)) ?_
                            refine And.intro (ob_indexAddr rfl (wt_none rfl) (ev_dep (j := 4) (by kernel_rfl) rfl rfl) (ev_dep (j := 5) (by kernel_rfl) rfl rfl) (fun _ _ _ hx hy => ⟨_, by rw [hx, hy]; exact index3 (k := k) Tryz.underlying29 (by kernel_rfl) hlte5 _, rfl⟩)) ?_
                            refine And.intro (ob_load rfl (wt_none rfl) (ev_dep (j := 6) (by kernel_rfl) rfl rfl) (fun w2 hb => load3 Tryz.underlying41 rfl (by kernel_rfl) ((hb.cell (World.block_lt_of_cell? wr _ ze50)).trans ze50) ((hb.cell (World.block_lt_of_cell? wr _ ze51)).trans ze51) ((hb.cell (World.block_lt_of_cell? wr _ ze52)).trans ze52)) (fun _ _ => rfl)) ?_
                            refine And.intro (ob_call1 rfl Tryz.func13 (by kernel_rfl) (wt_none rfl) (ev_dep (j := 7) (by kernel_rfl) rfl rfl) (fun w2 u0 hb h0 => by obtain rfl := h0; exact (qback_any _ _ _ (ze5.drew.below hb) (lx.mono (by decide))).mono fun e w3 h => RetQn.pd (RetQ.n h))) ?_
                            refine And.intro (ob_call2 rfl Tryz.func11 (by kernel_rfl) (wt_none rfl) (ev_dep (j := 3) (by kernel_rfl) rfl rfl) (ev_dep (j := 8) (by kernel_rfl) rfl rfl) (fun w2 u0 u1 hb h0 h1 => by obtain rfl := h0; exact (qsame_any _ _ (p) (x) false _ (ze4.drew.below hb) h1 HB1.out).mono fun e w3 h => RetV.pd h)) ?_
                            trivial
                          case done100 =>
                            refine fun w13 hb13 v0 h0 v1 h1 v2 h2 v3 h3 v4 h4 v5 h5 v6 h6 v7 h7 v8 h8 v9 h9 b hbf => ?_
                            obtain rfl := h0; obtain rfl := h1; obtain rfl := h2; obtain rfl := h3; obtain rfl := h4; obtain rfl := h5; obtain rfl := h6; obtain rfl := h7; obtain rfl := h9
                            have q8 := h8
                            simp only [Act.put, List.setIfInBounds_toArray, List.set_cons_zero, List.set_cons_succ] at hbf
                            subst hbf
                            replace Blo := Blo.below hb13
                            replace klos := klos.below hb13
                            replace klod := klod.below hb13
                            replace kloz := kloz.below hb13
                            replace klo := klo.below hb13
                            replace Bhi := Bhi.below hb13
                            replace khis := khis.below hb13
                            replace khid := khid.below hb13
                            replace khiz := khiz.below hb13
                            replace khi := khi.below hb13
                            replace Bs2 := Bs2.below hb13
                            replace ks2s := ks2s.below hb13
                            replace ks2d := ks2d.below hb13
                            replace ks2z := ks2z.below hb13
                            replace ks2 := ks2.below hb13
                            replace hV := hV.below hb13
                            replace hU := hU.below hb13
                            replace hS := hS.below hb13
                            replace hR := hR.below hb13
                            replace bb := bb.trans (hb13.mono bb.size)
                            have hsz13 := bb.size
                            replace hbJ := hbJ.trans (hb13.mono hbJ.size)
                            refine any_done (by kernel_rfl) ?_
                            obtain ⟨ue6, te6, hlte6, ze60, ze61, ze62, ze6s, ze6d⟩ := hV.at2 HRJ.out
                            obtain ⟨Ae6, ce6, rfl, _⟩ := id ze6s
                            obtain ⟨De6, ee6, rfl, _⟩ := id ze6d
                            have ze6 : IsQ w13 (.agg #[.bool (ngB (r).num), .slice Ae6 (digs 4294967296 (r).num.natAbs).length ce6, .slice De6 (digs 4294967296 (r).den).length ee6]) (r) := ⟨_, _, rfl, ze6s, ze6d⟩
                            obtain ⟨ue7, te7, hlte7, ze70, ze71, ze72, ze7s, ze7d⟩ := hV.at2 HX.out
                            obtain ⟨Ae7, ce7, rfl, _⟩ := id ze7s
                            obtain ⟨De7, ee7, rfl, _⟩ := id ze7d
                            have ze7 : IsQ w13 (.agg #[.bool (ngB (x).num), .slice Ae7 (digs 4294967296 (x).num.natAbs).length ce7, .slice De7 (digs 4294967296 (x).den).length ee7]) (x) := ⟨_, _, rfl, ze7s, ze7d⟩
                            go_upto_region 21 with (fail)
                            refine flow 9 [Pd.eq (.slice (some ⟨gV_, oV_, none⟩) qs.length cV_), Pd.eq (.int .i64 (j : Int)), Pd.eq (.pointer (some ⟨gV_, oV_ + j * 3, none⟩)), Pd.eq (.agg #[.bool (ngB (r).num), .slice Ae6 (digs 4294967296 (r).num.natAbs).length ce6, .slice De6 (digs 4294967296 (r).den).length ee6]), Pd.eq (.slice (some ⟨gV_, oV_, none⟩) qs.length cV_), Pd.eq (.int .i64 (k : Int)), Pd.eq (.pointer (some ⟨gV_, oV_ + k * 3, none⟩)), Pd.eq (.agg #[.bool (ngB (x).num), .slice Ae7 (digs 4294967296 (x).num.natAbs).length ce7, .slice De7 (digs 4294967296 (x).den).length ee7]), Pd.eq (.bool false)] (by kernel_rfl) (by kernel_rfl) ?ob101 ?done101
                            case ob101 =>
                              refine And.intro (ob_move rfl (wt_none rfl) (ev_far rfl rfl) (fun _ _ h => h)) ?_
                              refine And.intro (ob_move rfl (wt_none rfl) (ev_far rfl rfl) (fun _ _ h => h)) ?_
                              refine And.intro (ob_indexAddr rfl (wt_none rfl) (ev_dep (j := 0) (by kernel_rfl) rfl rfl) (ev_dep (j := 1) (by kernel_rfl) rfl rfl) (fun _ _ _ hx hy => ⟨_, by rw [hx, hy]; exact index3 (k := j) Tryz.underlying22 (by kernel_rfl) hlte6 _, rfl⟩)) ?_
                              refine And.intro (ob_load rfl (wt_none rfl) (ev_dep (j := 2) (by kernel_rfl) rfl rfl) (fun w2 hb => load3 Tryz.underlying28 rfl (by kernel_rfl) ((hb.cell (World.block_lt_of_cell? w13 _ ze60)).trans ze60) ((hb.cell (World.block_lt_of_cell? w13 _ ze61)).trans ze61) ((hb.cell (World.block_lt_of_cell? w13 _ ze62)).trans ze62)) (fun _ _ => rfl)) ?_
                              refine And.intro (ob_move rfl (wt_none rfl) (ev_far rfl rfl) (fun _ _ h => h)) ?_
                              refine And.intro (ob_move rfl (wt_none rfl) (ev_far rfl rfl) (fun _ _ h => h)) ?_
                              refine And.intro (ob_indexAddr rfl (wt_none rfl) (ev_dep (j := 4) (by kernel_rfl) rfl rfl) (ev_dep (j := 5) (by kernel_rfl) rfl rfl) (fun _ _ _ hx hy => ⟨_, by rw [hx, hy]; exact index3 (k := k) Tryz.underlying22 (by kernel_rfl) hlte7 _, rfl⟩)) ?_
                              refine And.intro (ob_load rfl (wt_none rfl) (ev_dep (j := 6) (by kernel_rfl) rfl rfl) (fun w2 hb => load3 Tryz.underlying28 rfl (by kernel_rfl) ((hb.cell (World.block_lt_of_cell? w13 _ ze70)).trans ze70) ((hb.cell (World.block_lt_of_cell? w13 _ ze71)).trans ze71) ((hb.cell (World.block_lt_of_cell? w13 _ ze72)).trans ze72)) (fun _ _ => rfl)) ?_
                              refine And.intro (ob_call2 rfl Tryz.func11 (by kernel_rfl) (wt_none rfl) (ev_dep (j := 3) (by kernel_rfl) rfl rfl) (ev_dep (j := 7) (by kernel_rfl) rfl rfl) (fun w2 u0 u1 hb h0 h1 => by obtain rfl := h0; obtain rfl := h1; exact (qsame_any _ _ (r) (x) false _ (ze6.drew.below hb) (ze7.drew.below hb) HB2.out).mono fun e w3 h => RetV.pd h)) ?_
                              trivial
                            case done101 =>
                              refine fun w14 hb14 v0 h0 v1 h1 v2 h2 v3 h3 v4 h4 v5 h5 v6 h6 v7 h7 v8 h8 b hbf => ?_
                              obtain rfl := h0; obtain rfl := h1; obtain rfl := h2; obtain rfl := h3; obtain rfl := h4; obtain rfl := h5; obtain rfl := h6; obtain rfl := h7; obtain rfl := h8
                              simp only [Act.put, List.setIfInBounds_toArray, List.set_cons_zero, List.set_cons_succ] at hbf
                              subst hbf
                              replace Blo := Blo.below hb14
                              replace klos := klos.below hb14
                              replace klod := klod.below hb14
                              replace kloz := kloz.below hb14
                              replace klo := klo.below hb14
                              replace Bhi := Bhi.below hb14
                              replace khis := khis.below hb14
                              replace khid := khid.below hb14
                              replace khiz := khiz.below hb14
                              replace khi := khi.below hb14
                              replace Bs2 := Bs2.below hb14
                              replace ks2s := ks2s.below hb14
                              replace ks2d := ks2d.below hb14
                              replace ks2z := ks2z.below hb14
                              replace ks2 := ks2.below hb14
                              replace hV := hV.below hb14
                              replace hU := hU.below hb14
                              replace hS := hS.below hb14
                              replace hR := hR.below hb14
                              replace bb := bb.trans (hb14.mono bb.size)
                              have hsz14 := bb.size
                              replace hbJ := hbJ.trans (hb14.mono hbJ.size)
                              refine any_done (by kernel_rfl) ?_
                              have hsk : qs.length - (j + 1) < qs.length - j := by omega
                              have HBJ := hbJ
                              clear hbJ
                              go_wp2
                              go_roundw
                              case rel => exact ⟨j + 1, by omega, HBJ, (by rw [HN1.out, HN2.out]; go_num), by go_num⟩
                              case measure => simp [RowKit.intOf]; omega
                    · have HN1 : Hid (n1 = n2) := by show _ = _; rw [HC1.out, HC2.out, List.take_of_length_le (by have := HSL.out; omega), List.take_of_length_le (by omega)]; exact HSO.out.count x
                      have hn12 := HN1.out
                      have hn13 : (((n1 : Nat) : Int) - ((n2 : Nat) : Int)) = 0 := by omega
                      have hsk : qs.length - (k + 1) < qs.length - k := by omega
                      go_wp2
                      refine ⟨?_, ?measure⟩
                      (repeat apply Exists.intro)
                      refine ⟨?rel, rfl⟩
                      case rel => exact ⟨k + 1, by omega, (by rw [← HYS.out, HYT.out]; exact ⟨_, _, Bs2, ks2s, ks2d⟩), ⟨_, _, Blo, klos, klod⟩, ⟨_, _, Bhi, khis, khid⟩, hV, hU, hS, hR, bb, by go_num⟩
                      case measure => simp [RowKit.intOf]; omega
          · have hsl := HSL.out
            have h0S : 0 < ss.length := by omega
            have h1S : qs.length - 1 < ss.length := by omega
            have HF : Hid (ss[0]? = some LO) := by
              show _ = _
              rw [List.getElem?_eq_getElem h0S, HLO.out, HSO.out.first (List.getElem?_eq_getElem h0S)]
            have HE : Hid (ss[qs.length - 1]? = some HI) := by
              show _ = _
              rw [List.getElem?_eq_getElem h1S, HHI.out, HSO.out.last (by omega) (List.getElem?_eq_getElem h1S)]
            clear hsl h0S h1S
            obtain ⟨ue1, te1, hlte1, ze10, ze11, ze12, ze1s, ze1d⟩ := hS.at2 HF.out
            obtain ⟨Ae1, ce1, rfl, _⟩ := id ze1s
            obtain ⟨De1, ee1, rfl, _⟩ := id ze1d
            have ze1 : IsQ wr (.agg #[.bool (ngB (LO).num), .slice Ae1 (digs 4294967296 (LO).num.natAbs).length ce1, .slice De1 (digs 4294967296 (LO).den).length ee1]) (LO) := ⟨_, _, rfl, ze1s, ze1d⟩
            obtain ⟨ue2, te2, hlte2, ze20, ze21, ze22, ze2s, ze2d⟩ := hS.at2 HE.out
            obtain ⟨Ae2, ce2, rfl, _⟩ := id ze2s
            obtain ⟨De2, ee2, rfl, _⟩ := id ze2d
            have ze2 : IsQ wr (.agg #[.bool (ngB (HI).num), .slice Ae2 (digs 4294967296 (HI).num.natAbs).length ce2, .slice De2 (digs 4294967296 (HI).den).length ee2]) (HI) := ⟨_, _, rfl, ze2s, ze2d⟩
            go_upto_region 25 with (fail)
            refine flow 23 [Pd.eq (.int .i64 0), Pd.eq (.bool true), Pd.eq (.bool true), Pd.eq (.agg #[.bool (ngB (LO).num), .slice Alo (digs 4294967296 (LO).num.natAbs).length clo, .slice Dlo (digs 4294967296 (LO).den).length elo]), Pd.eq (.slice (some ⟨gS_, oS_, none⟩) qs.length cS_), Pd.eq (.pointer (some ⟨gS_, oS_ + 0 * 3, none⟩)), Pd.eq (.agg #[.bool (ngB (LO).num), .slice Ae1 (digs 4294967296 (LO).num.natAbs).length ce1, .slice De1 (digs 4294967296 (LO).den).length ee1]), Pd.eq (.bool true), Pd.eq (.bool true), Pd.eq (.bool true), Pd.eq (.agg #[.bool (ngB (HI).num), .slice Ahi (digs 4294967296 (HI).num.natAbs).length chi, .slice Dhi (digs 4294967296 (HI).den).length ehi]), Pd.eq (.slice (some ⟨gS_, oS_, none⟩) qs.length cS_), Pd.eq (.slice (some ⟨gS_, oS_, none⟩) qs.length cS_), Pd.eq (.int .i64 ((qs.length : Nat) : Int)), Pd.eq (.int .i64 (((qs.length - 1) : Nat) : Int)), Pd.eq (.pointer (some ⟨gS_, oS_ + (qs.length - 1) * 3, none⟩)), Pd.eq (.agg #[.bool (ngB (HI).num), .slice Ae2 (digs 4294967296 (HI).num.natAbs).length ce2, .slice De2 (digs 4294967296 (HI).den).length ee2]), Pd.eq (.bool true), Pd.eq (.bool true), Pd.eq (.bool true), Pd.eq (.bool true), Pd.eq (.bool true), Pd.eq (.bool true)] (by kernel_rfl) (by kernel_rfl) ?ob102 ?done102
            case ob102 =>
              refine And.intro (ob_move rfl (wt_none rfl) (ev_far rfl rfl) (fun _ _ h => h)) ?_
              refine And.intro (ob_bin rfl (wt_none rfl) (ev_dep (j := 0) (by kernel_rfl) rfl rfl) (ev_const _) (fun _ _ _ hx hy => ⟨.bool ((0 : Int) == 0), by rw [hx, hy]; exact bin_eql_int _ _ _ _ _, congrArg Value.bool (by decide)⟩)) ?_
              refine And.intro (ob_move rfl (wt_none rfl) (ev_dep (j := 1) (by kernel_rfl) rfl rfl) (fun _ _ h => h)) ?_
              refine And.intro (ob_load rfl (wt_dep (c := true) (b := true) (g := 2) rfl (by kernel_rfl) rfl rfl rfl (by exact fun _ _ h => h)) (ev_far rfl rfl) (fun w2 hb => run_loadAll Tryz.underlying28 rfl (by kernel_rfl) (Blo.drew.below hb)) (fun _ _ => rfl)) ?_
              refine And.intro (ob_move rfl (wt_dep (c := true) (b := true) (g := 2) rfl (by kernel_rfl) rfl rfl rfl (by exact fun _ _ h => h)) (ev_far rfl rfl) (fun _ _ h => h)) ?_
              refine And.intro (ob_indexAddr rfl (wt_dep (c := true) (b := true) (g := 2) rfl (by kernel_rfl) rfl rfl rfl (by exact fun _ _ h => h)) (ev_dep (j := 4) (by kernel_rfl) rfl rfl) (ev_const _) (fun _ _ _ hx hy => ⟨_, by rw [hx, hy]; exact index3 (k := 0) Tryz.underlying22 (by kernel_rfl) hlte1 _, rfl⟩)) ?_
              refine And.intro (ob_load rfl (wt_dep (c := true) (b := true) (g := 2) rfl (by kernel_rfl) rfl rfl rfl (by exact fun _ _ h => h)) (ev_dep (j := 5) (by kernel_rfl) rfl rfl) (fun w2 hb => load3 Tryz.underlying28 rfl (by kernel_rfl) ((hb.cell (World.block_lt_of_cell? wr _ ze10)).trans ze10) ((hb.cell (World.block_lt_of_cell? wr _ ze11)).trans ze11) ((hb.cell (World.block_lt_of_cell? wr _ ze12)).trans ze12)) (fun _ _ => rfl)) ?_
              refine And.intro (ob_call2 rfl Tryz.func11 (by kernel_rfl) (wt_dep (c := true) (b := true) (g := 2) rfl (by kernel_rfl) rfl rfl rfl (by exact fun _ _ h => h)) (ev_dep (j := 3) (by kernel_rfl) rfl rfl) (ev_dep (j := 6) (by kernel_rfl) rfl rfl) (fun w2 u0 u1 hb h0 h1 => by obtain rfl := h0; obtain rfl := h1; exact (qsame_eq _ _ (LO) (LO) _ (klo.drew.below hb) (ze1.drew.below hb) rfl).mono fun e w3 h => RetV.pd h)) ?_
              refine And.intro (ob_pick (b := true) rfl (wt_none rfl) (ev_dep (j := 2) (by kernel_rfl) rfl rfl) (ev_dep (j := 7) (by kernel_rfl) rfl rfl) (fun _ _ h => h)) ?_
              refine And.intro (ob_move rfl (wt_none rfl) (ev_dep (j := 8) (by kernel_rfl) rfl rfl) (fun _ _ h => h)) ?_
              refine And.intro (ob_load rfl (wt_dep (c := true) (b := true) (g := 9) rfl (by kernel_rfl) rfl rfl rfl (by exact fun _ _ h => h)) (ev_far rfl rfl) (fun w2 hb => run_loadAll Tryz.underlying28 rfl (by kernel_rfl) (Bhi.drew.below hb)) (fun _ _ => rfl)) ?_
              refine And.intro (ob_move rfl (wt_dep (c := true) (b := true) (g := 9) rfl (by kernel_rfl) rfl rfl rfl (by exact fun _ _ h => h)) (ev_far rfl rfl) (fun _ _ h => h)) ?_
              refine And.intro (ob_move rfl (wt_dep (c := true) (b := true) (g := 9) rfl (by kernel_rfl) rfl rfl rfl (by exact fun _ _ h => h)) (ev_far rfl rfl) (fun _ _ h => h)) ?_
              refine And.intro (ob_len rfl (wt_dep (c := true) (b := true) (g := 9) rfl (by kernel_rfl) rfl rfl rfl (by exact fun _ _ h => h)) (ev_dep (j := 12) (by kernel_rfl) rfl rfl) (fun _ _ hx => ⟨_, by rw [hx]; exact len_slice Tryz.underlying22 _ _ _ _, rfl⟩)) ?_
              refine And.intro (ob_bin rfl (wt_dep (c := true) (b := true) (g := 9) rfl (by kernel_rfl) rfl rfl rfl (by exact fun _ _ h => h)) (ev_dep (j := 13) (by kernel_rfl) rfl rfl) (ev_const _) (fun _ _ _ hx hy => ⟨_, by rw [hx, hy]; exact bin_sub_nat _ _ (qs.length) (1) (by first | omega | (simp; omega)) (by first | omega | (simp; omega)) _, rfl⟩)) ?_
              refine And.intro (ob_indexAddr rfl (wt_dep (c := true) (b := true) (g := 9) rfl (by kernel_rfl) rfl rfl rfl (by exact fun _ _ h => h)) (ev_dep (j := 11) (by kernel_rfl) rfl rfl) (ev_dep (j := 14) (by kernel_rfl) rfl rfl) (fun _ _ _ hx hy => ⟨_, by rw [hx, hy]; exact index3 (k := (qs.length - 1)) Tryz.underlying22 (by kernel_rfl) hlte2 _, rfl⟩)) ?_
              refine And.intro (ob_load rfl (wt_dep (c := true) (b := true) (g := 9) rfl (by kernel_rfl) rfl rfl rfl (by exact fun _ _ h => h)) (ev_dep (j := 15) (by kernel_rfl) rfl rfl) (fun w2 hb => load3 Tryz.underlying28 rfl (by kernel_rfl) ((hb.cell (World.block_lt_of_cell? wr _ ze20)).trans ze20) ((hb.cell (World.block_lt_of_cell? wr _ ze21)).trans ze21) ((hb.cell (World.block_lt_of_cell? wr _ ze22)).trans ze22)) (fun _ _ => rfl)) ?_
              refine And.intro (ob_call2 rfl Tryz.func11 (by kernel_rfl) (wt_dep (c := true) (b := true) (g := 9) rfl (by kernel_rfl) rfl rfl rfl (by exact fun _ _ h => h)) (ev_dep (j := 10) (by kernel_rfl) rfl rfl) (ev_dep (j := 16) (by kernel_rfl) rfl rfl) (fun w2 u0 u1 hb h0 h1 => by obtain rfl := h0; obtain rfl := h1; exact (qsame_eq _ _ (HI) (HI) _ (khi.drew.below hb) (ze2.drew.below hb) rfl).mono fun e w3 h => RetV.pd h)) ?_
              refine And.intro (ob_pick (b := true) rfl (wt_none rfl) (ev_dep (j := 9) (by kernel_rfl) rfl rfl) (ev_dep (j := 17) (by kernel_rfl) rfl rfl) (fun _ _ h => h)) ?_
              refine And.intro (ob_move rfl (wt_none rfl) (ev_dep (j := 18) (by kernel_rfl) rfl rfl) (fun _ _ h => h)) ?_
              refine And.intro (ob_call0 rfl Tryz.func23 (by kernel_rfl) (wt_dep (c := true) (b := true) (g := 19) rfl (by kernel_rfl) rfl rfl rfl (by exact fun _ _ h => h)) (fun w2 hb => (works10_any _).mono fun e w3 h => RetV.pd h)) ?_
              refine And.intro (ob_pick (b := true) rfl (wt_none rfl) (ev_dep (j := 19) (by kernel_rfl) rfl rfl) (ev_dep (j := 20) (by kernel_rfl) rfl rfl) (fun _ _ h => h)) ?_
              refine And.intro (ob_assign rfl (wt_none rfl) (ev_dep (j := 21) (by kernel_rfl) rfl rfl) (fun _ _ h => h)) ?_
              trivial
            case done102 =>
              refine fun w9 hb9 v0 h0 v1 h1 v2 h2 v3 h3 v4 h4 v5 h5 v6 h6 v7 h7 v8 h8 v9 h9 v10 h10 v11 h11 v12 h12 v13 h13 v14 h14 v15 h15 v16 h16 v17 h17 v18 h18 v19 h19 v20 h20 v21 h21 v22 h22 b hbf => ?_
              obtain rfl := h0; obtain rfl := h1; obtain rfl := h2; obtain rfl := h3; obtain rfl := h4; obtain rfl := h5; obtain rfl := h6; obtain rfl := h7; obtain rfl := h8; obtain rfl := h9; obtain rfl := h10; obtain rfl := h11; obtain rfl := h12; obtain rfl := h13; obtain rfl := h14; obtain rfl := h15; obtain rfl := h16; obtain rfl := h17; obtain rfl := h18; obtain rfl := h19; obtain rfl := h20; obtain rfl := h21; obtain rfl := h22
              simp only [Act.put, List.setIfInBounds_toArray, List.set_cons_zero, List.set_cons_succ] at hbf
              subst hbf
              replace Blo := Blo.below hb9
              replace klos := klos.below hb9
              replace klod := klod.below hb9
              replace kloz := kloz.below hb9
              replace klo := klo.below hb9
              replace Bhi := Bhi.below hb9
              replace khis := khis.below hb9
              replace khid := khid.below hb9
              replace khiz := khiz.below hb9
              replace khi := khi.below hb9
              replace Bsm := Bsm.below hb9
              replace ksms := ksms.below hb9
              replace ksmd := ksmd.below hb9
              replace ksmz := ksmz.below hb9
              replace ksm := ksm.below hb9
              replace hV := hV.below hb9
              replace hU := hU.below hb9
              replace hS := hS.below hb9
              replace hR := hR.below hb9
              replace bb := bb.trans (hb9.mono bb.size)
              have hsz9 := bb.size
              refine any_done (by kernel_rfl) ?_
              go_wp2
              go_ret
              exact ⟨rfl, bb⟩
set_option maxRecDepth 100000 in
theorem lifted (os : Os) (started : os.Started) (H : Type) (enc : TypeId × Value → H) :
    ReturnsInHanded {} Tryz.checked os 8 .any (Rows.foldSortsSpec.pre6 enc Tryz.prog Tryz.f8 Rows.foldSortsRow.domain false) (Rows.foldSortsSpec.post enc Tryz.prog Tryz.f8 false true false false) := by
  refine returnsInHanded_of_change (C := Tryz.checked) own started (by kernel_rfl) Tryz.func8
    (ChangeSpec.witness6 (enc := enc) (C := Tryz.checked) false ⟨#[], #[.slice none 0 0], []⟩ 8 (by kernel_rfl) (by kernel_rfl) (by kernel_rfl) (by kernel_rfl)) ?_
  intro W base args ds gs before hval0 hW hcnd _
  have hval : ∀ (j : Nat) t v, Tryz.f8.params[j]? = some t → args[j]? = some v → Value.okWide Tryz.prog W .any base t v := hval0
  have hW' := hW
  obtain ⟨p, q, hA0, hV, rfl, hfz, hnd⟩ := hW
  have hA : DataW.TrodAll enc Tryz.prog W 0 (fun _ => true) true Tryz.f8.params.toList args.toList ds p := hA0
  rw [Tryz.params8] at hA hval
  obtain ⟨v0, vs0, d0, ds0, p0, q0, hargs, rfl, rfl, t0, r0⟩ := trodAll_cons hA
  obtain ⟨rfl, rfl, rfl⟩ := trodAll_nil r0
  obtain rfl : args = #[v0] := by cases args; simp_all
  obtain ⟨rfl, rfl⟩ := trodVars_none hV
  have hs0 := arg_qs Tryz.underlying22 Tryz.underlying28 (by kernel_rfl) (by kernel_rfl) Tryz.underlying26 (by kernel_rfl) Tryz.underlying4 Tryz.underlying24 Tryz.underlying24 Tryz.underlying71 cells_u (hval 0 22 v0 rfl rfl) t0
  clear hA0 hval0
  simp only [List.append_nil] at hW'
  have hlt0 : ∀ x ∈ p0, x.block < W.heap.size := fun x hx => hW'.lt x (hx)
  refine (walk v0 W hs0).mono fun e W' ⟨he, hb⟩ => ?_
  subst he
  have s0 := Below.trod laidOut (by kernel_rfl) (of_decide_eq_true (by kernel_rfl)) t0 hb hlt0
  exact ⟨_, rfl, _, _, _, [] ++ [], _, [], hW', trodAll_cons_mk (shut_bool Tryz.underlying4 _) trodAll_mk0, trodAll_cons_mk s0 (trodAll_mk0), rfl, hb.frame _, fun h => by cases h⟩
theorem over : Rows.foldSortsRow.holds Tryz.pinned (OpenSpec.ofChange Rows.foldSortsSpec) :=
  OpenClaim.holds_of_wide 8 Tryz.f8 rfl rfl rfl rfl rfl rfl rfl ⟨rfl, rfl, rfl, rfl, rfl⟩ rfl rfl rfl rfl rfl (by kernel_rfl) Tryz.func8 (by kernel_rfl)
    (of_decide_eq_true (by kernel_rfl)) (by unfold Func.isWrapper; first | (rw [if_pos (by decide +kernel)]; kernel_rfl) | (rw [if_neg (by decide +kernel)]; exact ⟨rfl, rfl⟩))
    (fun os started H enc _ => lifted os started H enc)
/-- The statement. -/
theorem proved : Rows.FoldSortsSaid := over
end Go.Proofs.YtlnmoledijlemaaGreat.foldSorts
