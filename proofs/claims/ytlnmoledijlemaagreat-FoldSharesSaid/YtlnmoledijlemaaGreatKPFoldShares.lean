/- FoldShares: the shares of any weights, and any fractions' mean. Condition: the arguments can be read as data. -/
import Derived.Test.YtlnmoledijlemaaGreatKP6
import Derived.Deep.Cut
import Derived.OpenShut
import Derived.LaidMore
import Derived.Lay
import Derived.Stop.Joined
namespace Go.Proofs.YtlnmoledijlemaaGreat.foldShares
open Go.ChangeShapes Go.WideShapes Go.ChangeAt Go.RowKit Go.Proofs.YtlnmoledijlemaaGreat.num Go.Proofs.YtlnmoledijlemaaGreat.mem Go.Proofs.YtlnmoledijlemaaGreat.nat Go.Proofs.YtlnmoledijlemaaGreat.txt Go.Proofs.YtlnmoledijlemaaGreat.str Go.Proofs.YtlnmoledijlemaaGreat.flow Go.Proofs.YtlnmoledijlemaaGreat.whl Go.Proofs.YtlnmoledijlemaaGreat.rat
set_option linter.unusedVariables false
theorem own : ownKnob Tryz.prog.godebug = none := by kernel_rfl
theorem laidOut : laidOutB Tryz.prog = true := by kernel_rfl
theorem cells_u : Tryz.prog.cellsOf 71 = 1 := by kernel_rfl
set_option maxHeartbeats 6400000 in
set_option maxRecDepth 100000 in
/-- The walk: the Go text returns true; what was there is as it was. -/
theorem walk (v0 : Value) (l0 : List Int) (v1 : Value) (w : World) (h0 : IsI w v0 l0) (h1 : ArgQs w v1) :
    Calls Tryz.prog 5 #[v0, v1] w (RetV (.bool true) w) := by
  obtain ⟨A0, c0, rfl, hc0, hm0⟩ := h0.shape
  obtain ⟨l, hl⟩ : ∃ l, l = l0.take (min l0.length 8) := ⟨_, rfl⟩
  have hl8 : l.length ≤ 8 := by rw [hl, List.length_take]; omega
  have HZB : Hid (∀ z ∈ l, -9223372036854775808 ≤ z ∧ z ≤ 9223372036854775807) := by
    obtain ⟨_, _, _, _, _, hz, _⟩ := h0
    intro z hz2
    rw [hl] at hz2
    exact hz z (List.mem_of_mem_take hz2)
  have hI0 : IsI w (.slice A0 (min l0.length 8) c0) l := by rw [hl]; exact h0.take (by omega)
  have bb : Below w.heap.size w w := Below.refl _ _
  have hsz0 := bb.size
  clear hl
  go_enter Tryz.func5, Tryz.ntmps5
  go_upto_region 1 with (fail)
  refine flowp 7 [prow 3 w.heap.size, Pd.eq (.slice A0 l0.length c0), Pd.eq (.slice A0 l0.length c0), Pd.eq (.int .i64 ((l0.length : Nat) : Int)), Pd.eq (.int .i64 (((min l0.length 8) : Nat) : Int)), Pd.eq (.slice A0 (min l0.length 8) c0), pil l] (by kernel_rfl) ?ob22 ?done22
  case ob22 =>
    refine And.intro (ob_row0 rfl rfl Tryz.underlying36 (by kernel_rfl) (fun _ _ _ h => h)) ?_
    refine And.intro (ob_move rfl (wt_none rfl) (ev_far rfl rfl) (fun _ _ h => h)) ?_
    refine And.intro (ob_move rfl (wt_none rfl) (ev_far rfl rfl) (fun _ _ h => h)) ?_
    refine And.intro (ob_len rfl (wt_none rfl) (ev_dep (j := 2) (by kernel_rfl) rfl rfl) (fun _ _ hx => ⟨_, by rw [hx]; exact len_slice Tryz.underlying36 _ _ _ _, rfl⟩)) ?_
    refine And.intro (ob_min rfl (wt_none rfl) (ev_dep (j := 3) (by kernel_rfl) rfl rfl) (ev_const _) (fun _ _ _ hx hy => ⟨_, by rw [hx, hy]; exact min_nat (l0.length) (8) _, rfl⟩)) ?_
    refine And.intro (ob_slice_to rfl (wt_none rfl) (ev_dep (j := 1) (by kernel_rfl) rfl rfl) (ev_dep (j := 4) (by kernel_rfl) rfl rfl) (fun _ _ _ hx hy => ⟨_, by rw [hx, hy]; exact cut_slice Tryz.underlying36 (by kernel_rfl) A0 _ c0 (min l0.length 8) (by omega) _, rfl⟩)) ?_
    refine And.intro (ob_append_int rfl (wt_none rfl) (ev_dep (j := 0) (by kernel_rfl) rfl rfl) (ev_dep (j := 5) (by kernel_rfl) rfl rfl) (fun _ _ h => h) (fun w2 v hb hv => by obtain rfl := hv; exact hI0.below hb) Tryz.underlying36 info_int (by omega) (fun _ _ h => h)) ?_
    trivial
  case done22 =>
    refine fun w1 hb1 v0 h0 v1 h1 v2 h2 v3 h3 v4 h4 v5 h5 v6 h6 b hbf => ?_
    obtain rfl := h1; obtain rfl := h2; obtain rfl := h3; obtain rfl := h4; obtain rfl := h5
    clear h0
    have q6 := h6
    simp only [Act.put, List.setIfInBounds_toArray, List.set_cons_zero, List.set_cons_succ] at hbf
    subst hbf
    replace bb := bb.trans (hb1.mono bb.size)
    have hsz1 := bb.size
    have hL := q6
    obtain ⟨AL, cL, rfl, hcL, hmL⟩ := hL.shape
    refine ops_assign (i := 7) (.slice AL l.length cL) rfl rfl rfl rfl rfl fun b hbf => ?_
    simp only [Act.put, List.setIfInBounds_toArray, List.set_cons_zero] at hbf
    subst hbf
    refine ops_done ?_
    go_wp2_with fail
    refine (few_any v1 _ (h1.below bb)).mono ?_
    rintro e w2 ⟨V, U, qs, rfl, hV, hU, hlen, hlq, hb2, hfV, hfU⟩
    clear hfV hfU
    replace hL := hL.below hb2
    replace bb := bb.trans (hb2.mono bb.size)
    have hsz2 := bb.size
    have hq2 : ∀ q ∈ qs, lenQ q 2 := hlq
    obtain ⟨SM, hSM⟩ : ∃ SM, SM = sumq qs := ⟨_, rfl⟩
    obtain ⟨PR, hPR⟩ : ∃ PR, PR = prodq qs := ⟨_, rfl⟩
    obtain ⟨WB, hWB⟩ : ∃ WB, WB = decide (wholeQ qs) := ⟨_, rfl⟩
    have HLQ := Lib.hid hlq
    have lSM : lenQ SM 25 := by rw [hSM]; exact (lenQ_sumq hlq).mono (by omega)
    have lPR : lenQ PR 25 := by rw [hPR]; exact (lenQ_prodq hlq).mono (by omega)
    have HSM := Lib.hid hSM.symm
    have HPR := Lib.hid hPR.symm
    have HWB := Lib.hid hWB
    have HLS : Hid ((∀ q ∈ qs, lenQ q 2) ∧ (2 + 1) * qs.length + 1 ≤ 1000) := ⟨hlq, by omega⟩
    have HLP : Hid ((∀ q ∈ qs, lenQ q 2) ∧ 2 * qs.length + 1 ≤ 1000) := ⟨hlq, by omega⟩
    have HL8 : Hid (qs.length ≤ 8) := hlen
    clear hSM hPR hWB hlq hq2
    have lq1 : lenQ (1 : Rat) 1 := ⟨digs_len_le (k := 1) (by omega) (by decide +kernel), digs_len_le (k := 1) (by omega) (by decide +kernel)⟩
    have hq2 := HLQ.out
    obtain ⟨AV, cV, rfl, hcV, hmV⟩ := hV.shape
    obtain ⟨AU, cU, rfl, hcU, hmU⟩ := hU.shape
    by_cases hE : sharesE l = 0
    · by_cases hlq : l.length ≠ qs.length
      · have HE := Lib.hid hE
        have hne_l : l ≠ [] := by
          rintro rfl
          have := HE.out
          unfold sharesE at this
          rw [if_pos rfl] at this
          cases this
        have hlp : 0 < l.length := List.length_pos_iff.2 hne_l
        have hneS : sharesL l ≠ [] := List.length_pos_iff.1 (by rw [sharesL_len]; exact hlp)
        have hneT := hneS
        have hls : ∀ s ∈ sharesL l, lenQ s 27 := fun s hs => shares_len HZB.out hl8 HE.out s hs
        clear hE
        have HME : Hid (meanE l qs = 2) := by show _ = _; unfold meanE; rw [if_neg hne_l, if_pos hlq]
        have HMN : Hid ((2 : Int) ≠ 0) := by show _ ≠ _; omega
        go_upto_region 3 with (fail)
        refine flowp 9 [prow 3 w2.heap.size, Pd.eq (.slice AL l.length cL), pil l, psl .u64 4294967296 (sharesL l) 0, psl .u64 4294967296 (sharesL l) 0, pslv .u64 4294967296 (sharesL l), Pd.eq (.int .i64 0), pslv .u64 4294967296 (sharesL l), Pd.eq (.int .i64 0)] (by kernel_rfl) ?ob30 ?done30
        case ob30 =>
          refine And.intro (ob_row0 rfl rfl Tryz.underlying36 (by kernel_rfl) (fun _ _ _ h => h)) ?_
          refine And.intro (ob_move rfl (wt_none rfl) (ev_far rfl rfl) (fun _ _ h => h)) ?_
          refine And.intro (ob_append_int rfl (wt_none rfl) (ev_dep (j := 0) (by kernel_rfl) rfl rfl) (ev_dep (j := 1) (by kernel_rfl) rfl rfl) (fun _ _ h => h) (fun w2 v hb hv => by obtain rfl := hv; exact hL.below hb) Tryz.underlying36 info_int (by omega) (fun _ _ h => h)) ?_
          refine And.intro (ob_call1 rfl Tryz.func27 (by kernel_rfl) (wt_none rfl) (ev_dep (j := 2) (by kernel_rfl) rfl rfl) (fun w2 u0 hb h0 => by have h := (fshares_any _ l _ h0 (by omega)); rw [HE.out] at h; exact h.mono fun e w3 h => RetQLE.pd h)) ?_
          refine And.intro (ob_move rfl (wt_none rfl) (ev_dep (j := 3) (by kernel_rfl) rfl rfl) (fun _ _ h => h)) ?_
          refine And.intro (ob_extract rfl (wt_none rfl) (ev_dep (j := 4) (by kernel_rfl) rfl rfl) (fun w2 u hu => by obtain ⟨V, rfl, h1⟩ := hu; exact ⟨V, rfl, h1⟩)) ?_
          refine And.intro (ob_extract rfl (wt_none rfl) (ev_dep (j := 4) (by kernel_rfl) rfl rfl) (fun w2 u hu => by obtain ⟨V, rfl, h1⟩ := hu; exact ⟨_, rfl, rfl⟩)) ?_
          refine And.intro (ob_assign rfl (wt_none rfl) (ev_dep (j := 5) (by kernel_rfl) rfl rfl) (fun _ _ h => h)) ?_
          refine And.intro (ob_assign rfl (wt_none rfl) (ev_dep (j := 6) (by kernel_rfl) rfl rfl) (fun _ _ h => h)) ?_
          trivial
        case done30 =>
          refine fun w3 hb3 v0 h0 v1 h1 v2 h2 v3 h3 v4 h4 v5 h5 v6 h6 v7 h7 v8 h8 b hbf => ?_
          obtain rfl := h1; obtain rfl := h6; obtain rfl := h8
          clear h0
          have q2 := h2
          clear h3
          clear h4
          have q5 := h5
          have q7 := h7
          simp only [Act.put, List.setIfInBounds_toArray, List.set_cons_zero, List.set_cons_succ] at hbf
          subst hbf
          replace hL := hL.below hb3
          replace hV := hV.below hb3
          replace hU := hU.below hb3
          replace bb := bb.trans (hb3.mono bb.size)
          have hsz3 := bb.size
          have hS := q7
          obtain ⟨gS_, oS_, cS_, rfl, _, _, hmS_⟩ := (show SlF _ _ _ _ _ from hS).place hneS
          rw [sharesL_len] at hS ⊢
          clear hmS_
          refine ops_done ?_
          go_upto_region 4 with (fail)
          refine flowp 7 [Pd.eq (.slice AL l.length cL), psl .i64 10000 (sharesL l) 0, psl .i64 10000 (sharesL l) 0, pslv .i64 10000 (sharesL l), Pd.eq (.int .i64 0), pslv .i64 10000 (sharesL l), Pd.eq (.int .i64 0)] (by kernel_rfl) ?ob31 ?done31
          case ob31 =>
            refine And.intro (ob_move rfl (wt_none rfl) (ev_far rfl rfl) (fun _ _ h => h)) ?_
            refine And.intro (ob_call1 rfl Tryz.func28 (by kernel_rfl) (wt_none rfl) (ev_dep (j := 0) (by kernel_rfl) rfl rfl) (fun w2 u0 hb h0 => by obtain rfl := h0; have h := (rshares_any _ l _ (hL.below hb) (by omega)); rw [HE.out] at h; exact h.mono fun e w3 h => RetLE.pd h)) ?_
            refine And.intro (ob_move rfl (wt_none rfl) (ev_dep (j := 1) (by kernel_rfl) rfl rfl) (fun _ _ h => h)) ?_
            refine And.intro (ob_extract rfl (wt_none rfl) (ev_dep (j := 2) (by kernel_rfl) rfl rfl) (fun w2 u hu => by obtain ⟨V, rfl, h1⟩ := hu; exact ⟨V, rfl, h1⟩)) ?_
            refine And.intro (ob_extract rfl (wt_none rfl) (ev_dep (j := 2) (by kernel_rfl) rfl rfl) (fun w2 u hu => by obtain ⟨V, rfl, h1⟩ := hu; exact ⟨_, rfl, rfl⟩)) ?_
            refine And.intro (ob_assign rfl (wt_none rfl) (ev_dep (j := 3) (by kernel_rfl) rfl rfl) (fun _ _ h => h)) ?_
            refine And.intro (ob_assign rfl (wt_none rfl) (ev_dep (j := 4) (by kernel_rfl) rfl rfl) (fun _ _ h => h)) ?_
            trivial
          case done31 =>
            refine fun w4 hb4 v0 h0 v1 h1 v2 h2 v3 h3 v4 h4 v5 h5 v6 h6 b hbf => ?_
            obtain rfl := h0; obtain rfl := h4; obtain rfl := h6
            clear h1
            clear h2
            have q3 := h3
            have q5 := h5
            simp only [Act.put, List.setIfInBounds_toArray, List.set_cons_zero, List.set_cons_succ] at hbf
            subst hbf
            replace hL := hL.below hb4
            replace hV := hV.below hb4
            replace hU := hU.below hb4
            replace hS := hS.below hb4
            replace bb := bb.trans (hb4.mono bb.size)
            have hsz4 := bb.size
            have hT := q5
            obtain ⟨gT_, oT_, cT_, rfl, _, _, hmT_⟩ := (show SlF _ _ _ _ _ from hT).place hneS
            rw [sharesL_len] at hT ⊢
            clear hmT_
            refine ops_done ?_
            go_wp2
            go_loopw [11] (fun v11 wr => ∃ k : Nat, k ≤ l.length ∧ Below w4.heap.size w4 wr ∧ v11 = .int .i64 (k : Int)) (fun v11 _ => l.length - (RowKit.intOf v11).toNat)
            case atStart => exact ⟨0, by omega, Below.refl _ _, rfl⟩
            case round =>
              obtain ⟨k, hk, hbj, rfl⟩ := hrel
              replace hL := hL.below hbj
              replace hV := hV.below hbj
              replace hU := hU.below hbj
              replace hS := hS.below hbj
              replace hT := hT.below hbj
              replace bb := bb.trans (hbj.mono bb.size)
              have hsz5 := bb.size
              have hbJ := hbj
              by_cases hlt : k < l.length
              · obtain ⟨s, hs⟩ : ∃ s, (sharesL l)[k]? = some s := ⟨_, List.getElem?_eq_getElem (by rw [sharesL_len]; exact hlt)⟩
                have ls : lenQ s 27 := hls s (List.mem_of_getElem? hs)
                have HSK := Lib.hid hs
                clear hs
                obtain ⟨ue1, te1, hlte1, ze10, ze11, ze12, ze1s, ze1d⟩ := hS.at2 HSK.out
                obtain ⟨Ae1, ce1, rfl, _⟩ := id ze1s
                obtain ⟨De1, ee1, rfl, _⟩ := id ze1d
                have ze1 : IsQ wr (.agg #[.bool (ngB (s).num), .slice Ae1 (digs 4294967296 (s).num.natAbs).length ce1, .slice De1 (digs 4294967296 (s).den).length ee1]) (s) := ⟨_, _, rfl, ze1s, ze1d⟩
                obtain ⟨ue2, te2, hlte2, ze20, ze21, ze22, ze2s, ze2d⟩ := hT.at2 HSK.out
                obtain ⟨Ae2, ce2, rfl, _⟩ := id ze2s
                obtain ⟨De2, ee2, rfl, _⟩ := id ze2d
                have ze2 : IsP wr (.agg #[.bool (ngB (s).num), .slice Ae2 (digs 10000 (s).num.natAbs).length ce2, .slice De2 (digs 10000 (s).den).length ee2]) (s) := ⟨_, _, rfl, ze2s, ze2d⟩
                go_upto_region 10 with (fail)
                refine flow 11 [Pd.eq (.slice (some ⟨gS_, oS_, none⟩) l.length cS_), Pd.eq (.int .i64 (k : Int)), Pd.eq (.pointer (some ⟨gS_, oS_ + k * 3, none⟩)), Pd.eq (.agg #[.bool (ngB (s).num), .slice Ae1 (digs 4294967296 (s).num.natAbs).length ce1, .slice De1 (digs 4294967296 (s).den).length ee1]), Pd.eq (.slice (some ⟨gT_, oT_, none⟩) l.length cT_), Pd.eq (.int .i64 (k : Int)), Pd.eq (.pointer (some ⟨gT_, oT_ + k * 3, none⟩)), Pd.eq (.agg #[.bool (ngB (s).num), .slice Ae2 (digs 10000 (s).num.natAbs).length ce2, .slice De2 (digs 10000 (s).den).length ee2]), pqn (s), Pd.eq (.bool true), Pd.eq (.bool false)] (by kernel_rfl) (by kernel_rfl) ?ob32 ?done32
                case ob32 =>
                  refine And.intro (ob_move rfl (wt_none rfl) (ev_far rfl rfl) (fun _ _ h => h)) ?_
                  refine And.intro (ob_move rfl (wt_none rfl) (ev_far rfl rfl) (fun _ _ h => h)) ?_
                  refine And.intro (ob_indexAddr rfl (wt_none rfl) (ev_dep (j := 0) (by kernel_rfl) rfl rfl) (ev_dep (j := 1) (by kernel_rfl) rfl rfl) (fun _ _ _ hx hy => ⟨_, by rw [hx, hy]; exact index3 (k := k) Tryz.underlying22 (by kernel_rfl) hlte1 _, rfl⟩)) ?_
                  refine And.intro (ob_load rfl (wt_none rfl) (ev_dep (j := 2) (by kernel_rfl) rfl rfl) (fun w2 hb => load3 Tryz.underlying28 rfl (by kernel_rfl) ((hb.cell (World.block_lt_of_cell? wr _ ze10)).trans ze10) ((hb.cell (World.block_lt_of_cell? wr _ ze11)).trans ze11) ((hb.cell (World.block_lt_of_cell? wr _ ze12)).trans ze12)) (fun _ _ => rfl)) ?_
                  refine And.intro (ob_move rfl (wt_none rfl) (ev_far rfl rfl) (fun _ _ h => h)) ?_
                  refine And.intro (ob_move rfl (wt_none rfl) (ev_far rfl rfl) (fun _ _ h => h)) ?_
                  refine And.intro (ob_indexAddr rfl (wt_none rfl) (ev_dep (j := 4) (by kernel_rfl) rfl rfl) (ev_dep (j := 5) (by kernel_rfl) rfl rfl) (fun _ _ _ hx hy => ⟨_, by rw [hx, hy]; exact index3 (k := k) Tryz.underlying29 (by kernel_rfl) hlte2 _, rfl⟩)) ?_
                  refine And.intro (ob_load rfl (wt_none rfl) (ev_dep (j := 6) (by kernel_rfl) rfl rfl) (fun w2 hb => load3 Tryz.underlying41 rfl (by kernel_rfl) ((hb.cell (World.block_lt_of_cell? wr _ ze20)).trans ze20) ((hb.cell (World.block_lt_of_cell? wr _ ze21)).trans ze21) ((hb.cell (World.block_lt_of_cell? wr _ ze22)).trans ze22)) (fun _ _ => rfl)) ?_
                  refine And.intro (ob_call1 rfl Tryz.func13 (by kernel_rfl) (wt_none rfl) (ev_dep (j := 7) (by kernel_rfl) rfl rfl) (fun w2 u0 hb h0 => by obtain rfl := h0; exact (qback_any _ _ _ (ze2.drew.below hb) (ls.mono (by decide))).mono fun e w3 h => RetQn.pd (RetQ.n h))) ?_
                  refine And.intro (ob_call2 rfl Tryz.func11 (by kernel_rfl) (wt_none rfl) (ev_dep (j := 3) (by kernel_rfl) rfl rfl) (ev_dep (j := 8) (by kernel_rfl) rfl rfl) (fun w2 u0 u1 hb h0 h1 => by obtain rfl := h0; exact (qsame_eq _ _ (s) (s) _ (ze1.drew.below hb) h1 rfl).mono fun e w3 h => RetV.pd h)) ?_
                  refine And.intro (ob_un rfl (wt_none rfl) (ev_dep (j := 9) (by kernel_rfl) rfl rfl) (fun _ => un_not _ _) (fun _ => rfl)) ?_
                  trivial
                case done32 =>
                  refine fun w6 hb6 v0 h0 v1 h1 v2 h2 v3 h3 v4 h4 v5 h5 v6 h6 v7 h7 v8 h8 v9 h9 v10 h10 b hbf => ?_
                  obtain rfl := h0; obtain rfl := h1; obtain rfl := h2; obtain rfl := h3; obtain rfl := h4; obtain rfl := h5; obtain rfl := h6; obtain rfl := h7; obtain rfl := h9; obtain rfl := h10
                  have q8 := h8
                  simp only [Act.put, List.setIfInBounds_toArray, List.set_cons_zero, List.set_cons_succ] at hbf
                  subst hbf
                  replace hL := hL.below hb6
                  replace hV := hV.below hb6
                  replace hU := hU.below hb6
                  replace hS := hS.below hb6
                  replace hT := hT.below hb6
                  replace bb := bb.trans (hb6.mono bb.size)
                  have hsz6 := bb.size
                  replace hbJ := hbJ.trans (hb6.mono hbJ.size)
                  refine any_done (by kernel_rfl) ?_
                  have HBJ := hbJ
                  clear hbJ
                  go_wp2
                  go_roundw
                  case rel => exact ⟨k + 1, by omega, HBJ, by go_num⟩
                  case measure => simp [RowKit.intOf]; omega
              · have hq1 : (((l.length : Nat) : Int) != ((qs.length : Nat) : Int)) = true := by rw [bne_iff_ne]; omega
                have hq3 : (0 : Int) < ((l.length : Nat) : Int) := by omega
                go_upto_region 12 with (fail)
                refine flowp 9 [prow 3 wr.heap.size, Pd.eq (.slice AL l.length cL), pil l, Pd.eq (.slice AV qs.length cV), Pd.eq (.tuple #[.agg #[.bool false, .slice none 0 0, .slice none 0 0], .int .i64 2]), Pd.eq (.tuple #[.agg #[.bool false, .slice none 0 0, .slice none 0 0], .int .i64 2]), Pd.eq (.agg #[.bool false, .slice none 0 0, .slice none 0 0]), Pd.eq (.int .i64 2), pn 28 #[.bool false, .slice none 0 0, .slice none 0 0] wr.heap.size] (by kernel_rfl) ?ob33 ?done33
                case ob33 =>
                  refine And.intro (ob_row0 rfl rfl Tryz.underlying36 (by kernel_rfl) (fun _ _ _ h => h)) ?_
                  refine And.intro (ob_move rfl (wt_none rfl) (ev_far rfl rfl) (fun _ _ h => h)) ?_
                  refine And.intro (ob_append_int rfl (wt_none rfl) (ev_dep (j := 0) (by kernel_rfl) rfl rfl) (ev_dep (j := 1) (by kernel_rfl) rfl rfl) (fun _ _ h => h) (fun w2 v hb hv => by obtain rfl := hv; exact hL.below hb) Tryz.underlying36 info_int (by omega) (fun _ _ h => h)) ?_
                  refine And.intro (ob_move rfl (wt_none rfl) (ev_far rfl rfl) (fun _ _ h => h)) ?_
                  refine And.intro (ob_call2 rfl Tryz.func29 (by kernel_rfl) (wt_none rfl) (ev_dep (j := 2) (by kernel_rfl) rfl rfl) (ev_dep (j := 3) (by kernel_rfl) rfl rfl) (fun w2 u0 u1 hb h0 h1 => by obtain rfl := h1; exact (fmean_no _ _ l qs _ _ h0 (hV.below hb) HME.out HMN.out ⟨hl8, hlen, HLQ.out⟩).mono fun e w3 h => RetQN.pd h)) ?_
                  refine And.intro (ob_move rfl (wt_none rfl) (ev_dep (j := 4) (by kernel_rfl) rfl rfl) (fun _ _ h => h)) ?_
                  refine And.intro (ob_extract rfl (wt_none rfl) (ev_dep (j := 5) (by kernel_rfl) rfl rfl) (fun w2 u hu => by obtain rfl := hu; exact ⟨_, rfl, rfl⟩)) ?_
                  refine And.intro (ob_extract rfl (wt_none rfl) (ev_dep (j := 5) (by kernel_rfl) rfl rfl) (fun w2 u hu => by obtain rfl := hu; exact ⟨_, rfl, rfl⟩)) ?_
                  refine And.intro (ob_alloc (z := .agg #[.bool false, .slice none 0 0, .slice none 0 0]) rfl rfl (fun _ => by kernel_rfl) (fun _ _ hB h => ⟨_, rfl, hB, h⟩)) ?_
                  trivial
                case done33 =>
                  refine fun w6 hb6 v0 h0 v1 h1 v2 h2 v3 h3 v4 h4 v5 h5 v6 h6 v7 h7 v8 h8 d8 b hbf => ?_
                  obtain rfl := h1; obtain rfl := h3; obtain rfl := h4; obtain rfl := h5; obtain rfl := h6; obtain rfl := h7
                  clear h0
                  have q2 := h2
                  obtain ⟨g33_8, rfl, hg8, B8⟩ := h8
                  simp only [Act.put, List.setIfInBounds_toArray, List.set_cons_zero, List.set_cons_succ] at hbf
                  subst hbf
                  replace hL := hL.below hb6
                  replace hV := hV.below hb6
                  replace hU := hU.below hb6
                  replace hS := hS.below hb6
                  replace hT := hT.below hb6
                  replace bb := bb.trans (hb6.mono bb.size)
                  have hsz6 := bb.size
                  have BA12 := B8
                  refine ops_store (i := 9) rfl rfl rfl rfl rfl rfl (cells := [.bool false, .slice none 0 0, .slice none 0 0]) rfl BA12 rfl (by kernel_rfl) (one3 rfl rfl rfl) fun w7 hg7 BN7 => ?_
                  replace bb := bb.trans ((Below.refl _ _).grown hg7 bb.size (fun g hg => by injection hg with hg; omega))
                  have hsz7 := bb.size
                  replace BA12 : Blk w7 (g33_8) _ #[.bool false, .slice none 0 0, .slice none 0 0] := BN7
                  refine ops_assign (i := 10) (.int .i64 2) rfl rfl rfl rfl rfl fun b hbf => ?_
                  simp only [Act.put, List.setIfInBounds_toArray, List.set_cons_zero, List.set_cons_succ] at hbf
                  subst hbf
                  refine ops_done ?_
                  go_wp2_with fail
                  refine (works10_any _).mono ?_
                  rintro e w9 ⟨rfl, b9⟩
                  have bb9 := bb.trans (b9.mono bb.size)
                  go_wp2
                  go_ret
                  exact ⟨rfl, bb9⟩
      · have HLQ2 : Hid (l.length = qs.length) := by show _ = _; omega
        clear hlq
        have HE := Lib.hid hE
        have hne_l : l ≠ [] := by
          rintro rfl
          have := HE.out
          unfold sharesE at this
          rw [if_pos rfl] at this
          cases this
        have hlp : 0 < l.length := List.length_pos_iff.2 hne_l
        have hneS : sharesL l ≠ [] := List.length_pos_iff.1 (by rw [sharesL_len]; exact hlp)
        have hneT := hneS
        have hls : ∀ s ∈ sharesL l, lenQ s 27 := fun s hs => shares_len HZB.out hl8 HE.out s hs
        clear hE
        have HME : Hid (meanE l qs = 0) := by show _ = _; unfold meanE; rw [if_neg hne_l, if_neg (by rw [HLQ2.out]; simp), HE.out]
        have hne : qs ≠ [] := List.length_pos_iff.1 (by have := HLQ2.out; omega)
        obtain ⟨gV_, oV_, cV2, hv, _, _, _⟩ := hV.place hne
        injection hv with e1 _ e3
        subst e1
        obtain ⟨gU_, oU_, cU2, hv, _, _, _⟩ := hU.place hne
        injection hv with e1 _ e4
        subst e1
        clear e3 e4
        obtain ⟨MQ, hMQ⟩ : ∃ MQ, MQ = meanq l qs := ⟨_, rfl⟩
        have HMQ := Lib.hid hMQ
        clear hMQ
        go_upto_region 3 with (fail)
        refine flowp 9 [prow 3 w2.heap.size, Pd.eq (.slice AL l.length cL), pil l, psl .u64 4294967296 (sharesL l) 0, psl .u64 4294967296 (sharesL l) 0, pslv .u64 4294967296 (sharesL l), Pd.eq (.int .i64 0), pslv .u64 4294967296 (sharesL l), Pd.eq (.int .i64 0)] (by kernel_rfl) ?ob23 ?done23
        case ob23 =>
          refine And.intro (ob_row0 rfl rfl Tryz.underlying36 (by kernel_rfl) (fun _ _ _ h => h)) ?_
          refine And.intro (ob_move rfl (wt_none rfl) (ev_far rfl rfl) (fun _ _ h => h)) ?_
          refine And.intro (ob_append_int rfl (wt_none rfl) (ev_dep (j := 0) (by kernel_rfl) rfl rfl) (ev_dep (j := 1) (by kernel_rfl) rfl rfl) (fun _ _ h => h) (fun w2 v hb hv => by obtain rfl := hv; exact hL.below hb) Tryz.underlying36 info_int (by omega) (fun _ _ h => h)) ?_
          refine And.intro (ob_call1 rfl Tryz.func27 (by kernel_rfl) (wt_none rfl) (ev_dep (j := 2) (by kernel_rfl) rfl rfl) (fun w2 u0 hb h0 => by have h := (fshares_any _ l _ h0 (by omega)); rw [HE.out] at h; exact h.mono fun e w3 h => RetQLE.pd h)) ?_
          refine And.intro (ob_move rfl (wt_none rfl) (ev_dep (j := 3) (by kernel_rfl) rfl rfl) (fun _ _ h => h)) ?_
          refine And.intro (ob_extract rfl (wt_none rfl) (ev_dep (j := 4) (by kernel_rfl) rfl rfl) (fun w2 u hu => by obtain ⟨V, rfl, h1⟩ := hu; exact ⟨V, rfl, h1⟩)) ?_
          refine And.intro (ob_extract rfl (wt_none rfl) (ev_dep (j := 4) (by kernel_rfl) rfl rfl) (fun w2 u hu => by obtain ⟨V, rfl, h1⟩ := hu; exact ⟨_, rfl, rfl⟩)) ?_
          refine And.intro (ob_assign rfl (wt_none rfl) (ev_dep (j := 5) (by kernel_rfl) rfl rfl) (fun _ _ h => h)) ?_
          refine And.intro (ob_assign rfl (wt_none rfl) (ev_dep (j := 6) (by kernel_rfl) rfl rfl) (fun _ _ h => h)) ?_
          trivial
        case done23 =>
          refine fun w3 hb3 v0 h0 v1 h1 v2 h2 v3 h3 v4 h4 v5 h5 v6 h6 v7 h7 v8 h8 b hbf => ?_
          obtain rfl := h1; obtain rfl := h6; obtain rfl := h8
          clear h0
          have q2 := h2
          clear h3
          clear h4
          have q5 := h5
          have q7 := h7
          simp only [Act.put, List.setIfInBounds_toArray, List.set_cons_zero, List.set_cons_succ] at hbf
          subst hbf
          replace hL := hL.below hb3
          replace hV := hV.below hb3
          replace hU := hU.below hb3
          replace bb := bb.trans (hb3.mono bb.size)
          have hsz3 := bb.size
          have hS := q7
          obtain ⟨gS_, oS_, cS_, rfl, _, _, hmS_⟩ := (show SlF _ _ _ _ _ from hS).place hneS
          rw [sharesL_len] at hS ⊢
          clear hmS_
          refine ops_done ?_
          go_upto_region 4 with (fail)
          refine flowp 7 [Pd.eq (.slice AL l.length cL), psl .i64 10000 (sharesL l) 0, psl .i64 10000 (sharesL l) 0, pslv .i64 10000 (sharesL l), Pd.eq (.int .i64 0), pslv .i64 10000 (sharesL l), Pd.eq (.int .i64 0)] (by kernel_rfl) ?ob24 ?done24
          case ob24 =>
            refine And.intro (ob_move rfl (wt_none rfl) (ev_far rfl rfl) (fun _ _ h => h)) ?_
            refine And.intro (ob_call1 rfl Tryz.func28 (by kernel_rfl) (wt_none rfl) (ev_dep (j := 0) (by kernel_rfl) rfl rfl) (fun w2 u0 hb h0 => by obtain rfl := h0; have h := (rshares_any _ l _ (hL.below hb) (by omega)); rw [HE.out] at h; exact h.mono fun e w3 h => RetLE.pd h)) ?_
            refine And.intro (ob_move rfl (wt_none rfl) (ev_dep (j := 1) (by kernel_rfl) rfl rfl) (fun _ _ h => h)) ?_
            refine And.intro (ob_extract rfl (wt_none rfl) (ev_dep (j := 2) (by kernel_rfl) rfl rfl) (fun w2 u hu => by obtain ⟨V, rfl, h1⟩ := hu; exact ⟨V, rfl, h1⟩)) ?_
            refine And.intro (ob_extract rfl (wt_none rfl) (ev_dep (j := 2) (by kernel_rfl) rfl rfl) (fun w2 u hu => by obtain ⟨V, rfl, h1⟩ := hu; exact ⟨_, rfl, rfl⟩)) ?_
            refine And.intro (ob_assign rfl (wt_none rfl) (ev_dep (j := 3) (by kernel_rfl) rfl rfl) (fun _ _ h => h)) ?_
            refine And.intro (ob_assign rfl (wt_none rfl) (ev_dep (j := 4) (by kernel_rfl) rfl rfl) (fun _ _ h => h)) ?_
            trivial
          case done24 =>
            refine fun w4 hb4 v0 h0 v1 h1 v2 h2 v3 h3 v4 h4 v5 h5 v6 h6 b hbf => ?_
            obtain rfl := h0; obtain rfl := h4; obtain rfl := h6
            clear h1
            clear h2
            have q3 := h3
            have q5 := h5
            simp only [Act.put, List.setIfInBounds_toArray, List.set_cons_zero, List.set_cons_succ] at hbf
            subst hbf
            replace hL := hL.below hb4
            replace hV := hV.below hb4
            replace hU := hU.below hb4
            replace hS := hS.below hb4
            replace bb := bb.trans (hb4.mono bb.size)
            have hsz4 := bb.size
            have hT := q5
            obtain ⟨gT_, oT_, cT_, rfl, _, _, hmT_⟩ := (show SlF _ _ _ _ _ from hT).place hneS
            rw [sharesL_len] at hT ⊢
            clear hmT_
            refine ops_done ?_
            go_wp2
            go_loopw [11] (fun v11 wr => ∃ k : Nat, k ≤ l.length ∧ Below w4.heap.size w4 wr ∧ v11 = .int .i64 (k : Int)) (fun v11 _ => l.length - (RowKit.intOf v11).toNat)
            case atStart => exact ⟨0, by omega, Below.refl _ _, rfl⟩
            case round =>
              obtain ⟨k, hk, hbj, rfl⟩ := hrel
              replace hL := hL.below hbj
              replace hV := hV.below hbj
              replace hU := hU.below hbj
              replace hS := hS.below hbj
              replace hT := hT.below hbj
              replace bb := bb.trans (hbj.mono bb.size)
              have hsz5 := bb.size
              have hbJ := hbj
              by_cases hlt : k < l.length
              · obtain ⟨s, hs⟩ : ∃ s, (sharesL l)[k]? = some s := ⟨_, List.getElem?_eq_getElem (by rw [sharesL_len]; exact hlt)⟩
                have ls : lenQ s 27 := hls s (List.mem_of_getElem? hs)
                have HSK := Lib.hid hs
                clear hs
                obtain ⟨ue1, te1, hlte1, ze10, ze11, ze12, ze1s, ze1d⟩ := hS.at2 HSK.out
                obtain ⟨Ae1, ce1, rfl, _⟩ := id ze1s
                obtain ⟨De1, ee1, rfl, _⟩ := id ze1d
                have ze1 : IsQ wr (.agg #[.bool (ngB (s).num), .slice Ae1 (digs 4294967296 (s).num.natAbs).length ce1, .slice De1 (digs 4294967296 (s).den).length ee1]) (s) := ⟨_, _, rfl, ze1s, ze1d⟩
                obtain ⟨ue2, te2, hlte2, ze20, ze21, ze22, ze2s, ze2d⟩ := hT.at2 HSK.out
                obtain ⟨Ae2, ce2, rfl, _⟩ := id ze2s
                obtain ⟨De2, ee2, rfl, _⟩ := id ze2d
                have ze2 : IsP wr (.agg #[.bool (ngB (s).num), .slice Ae2 (digs 10000 (s).num.natAbs).length ce2, .slice De2 (digs 10000 (s).den).length ee2]) (s) := ⟨_, _, rfl, ze2s, ze2d⟩
                go_upto_region 10 with (fail)
                refine flow 11 [Pd.eq (.slice (some ⟨gS_, oS_, none⟩) l.length cS_), Pd.eq (.int .i64 (k : Int)), Pd.eq (.pointer (some ⟨gS_, oS_ + k * 3, none⟩)), Pd.eq (.agg #[.bool (ngB (s).num), .slice Ae1 (digs 4294967296 (s).num.natAbs).length ce1, .slice De1 (digs 4294967296 (s).den).length ee1]), Pd.eq (.slice (some ⟨gT_, oT_, none⟩) l.length cT_), Pd.eq (.int .i64 (k : Int)), Pd.eq (.pointer (some ⟨gT_, oT_ + k * 3, none⟩)), Pd.eq (.agg #[.bool (ngB (s).num), .slice Ae2 (digs 10000 (s).num.natAbs).length ce2, .slice De2 (digs 10000 (s).den).length ee2]), pqn (s), Pd.eq (.bool true), Pd.eq (.bool false)] (by kernel_rfl) (by kernel_rfl) ?ob25 ?done25
                case ob25 =>
                  refine And.intro (ob_move rfl (wt_none rfl) (ev_far rfl rfl) (fun _ _ h => h)) ?_
                  refine And.intro (ob_move rfl (wt_none rfl) (ev_far rfl rfl) (fun _ _ h => h)) ?_
                  refine And.intro (ob_indexAddr rfl (wt_none rfl) (ev_dep (j := 0) (by kernel_rfl) rfl rfl) (ev_dep (j := 1) (by kernel_rfl) rfl rfl) (fun _ _ _ hx hy => ⟨_, by rw [hx, hy]; exact index3 (k := k) Tryz.underlying22 (by kernel_rfl) hlte1 _, rfl⟩)) ?_
                  refine And.intro (ob_load rfl (wt_none rfl) (ev_dep (j := 2) (by kernel_rfl) rfl rfl) (fun w2 hb => load3 Tryz.underlying28 rfl (by kernel_rfl) ((hb.cell (World.block_lt_of_cell? wr _ ze10)).trans ze10) ((hb.cell (World.block_lt_of_cell? wr _ ze11)).trans ze11) ((hb.cell (World.block_lt_of_cell? wr _ ze12)).trans ze12)) (fun _ _ => rfl)) ?_
                  refine And.intro (ob_move rfl (wt_none rfl) (ev_far rfl rfl) (fun _ _ h => h)) ?_
                  refine And.intro (ob_move rfl (wt_none rfl) (ev_far rfl rfl) (fun _ _ h => h)) ?_
                  refine And.intro (ob_indexAddr rfl (wt_none rfl) (ev_dep (j := 4) (by kernel_rfl) rfl rfl) (ev_dep (j := 5) (by kernel_rfl) rfl rfl) (fun _ _ _ hx hy => ⟨_, by rw [hx, hy]; exact index3 (k := k) Tryz.underlying29 (by kernel_rfl) hlte2 _, rfl⟩)) ?_
                  refine And.intro (ob_load rfl (wt_none rfl) (ev_dep (j := 6) (by kernel_rfl) rfl rfl) (fun w2 hb => load3 Tryz.underlying41 rfl (by kernel_rfl) ((hb.cell (World.block_lt_of_cell? wr _ ze20)).trans ze20) ((hb.cell (World.block_lt_of_cell? wr _ ze21)).trans ze21) ((hb.cell (World.block_lt_of_cell? wr _ ze22)).trans ze22)) (fun _ _ => rfl)) ?_
                  refine And.intro (ob_call1 rfl Tryz.func13 (by kernel_rfl) (wt_none rfl) (ev_dep (j := 7) (by kernel_rfl) rfl rfl) (fun w2 u0 hb h0 => by obtain rfl := h0; exact (qback_any _ _ _ (ze2.drew.below hb) (ls.mono (by decide))).mono fun e w3 h => RetQn.pd (RetQ.n h))) ?_
                  refine And.intro (ob_call2 rfl Tryz.func11 (by kernel_rfl) (wt_none rfl) (ev_dep (j := 3) (by kernel_rfl) rfl rfl) (ev_dep (j := 8) (by kernel_rfl) rfl rfl) (fun w2 u0 u1 hb h0 h1 => by obtain rfl := h0; exact (qsame_eq _ _ (s) (s) _ (ze1.drew.below hb) h1 rfl).mono fun e w3 h => RetV.pd h)) ?_
                  refine And.intro (ob_un rfl (wt_none rfl) (ev_dep (j := 9) (by kernel_rfl) rfl rfl) (fun _ => un_not _ _) (fun _ => rfl)) ?_
                  trivial
                case done25 =>
                  refine fun w6 hb6 v0 h0 v1 h1 v2 h2 v3 h3 v4 h4 v5 h5 v6 h6 v7 h7 v8 h8 v9 h9 v10 h10 b hbf => ?_
                  obtain rfl := h0; obtain rfl := h1; obtain rfl := h2; obtain rfl := h3; obtain rfl := h4; obtain rfl := h5; obtain rfl := h6; obtain rfl := h7; obtain rfl := h9; obtain rfl := h10
                  have q8 := h8
                  simp only [Act.put, List.setIfInBounds_toArray, List.set_cons_zero, List.set_cons_succ] at hbf
                  subst hbf
                  replace hL := hL.below hb6
                  replace hV := hV.below hb6
                  replace hU := hU.below hb6
                  replace hS := hS.below hb6
                  replace hT := hT.below hb6
                  replace bb := bb.trans (hb6.mono bb.size)
                  have hsz6 := bb.size
                  replace hbJ := hbJ.trans (hb6.mono hbJ.size)
                  refine any_done (by kernel_rfl) ?_
                  have HBJ := hbJ
                  clear hbJ
                  go_wp2
                  go_roundw
                  case rel => exact ⟨k + 1, by omega, HBJ, by go_num⟩
                  case measure => simp [RowKit.intOf]; omega
              · have hq1 : (((l.length : Nat) : Int) != ((qs.length : Nat) : Int)) = false := by rw [HLQ2.out]; exact bne_self_eq_false _
                have hq3 : (0 : Int) < ((l.length : Nat) : Int) := by omega
                have ltV5 := hV.lt hne
                have ltU5 := hU.lt hne
                have ltS5 := hS.lt hneS
                have ltT5 := hT.lt hneT
                go_upto_region 12 with (fail)
                refine flowp 9 [prow 3 wr.heap.size, Pd.eq (.slice AL l.length cL), pil l, Pd.eq (.slice (some ⟨gV_, oV_, none⟩) qs.length cV), pqe (MQ) 0, pqe (MQ) 0, pqn (MQ), Pd.eq (.int .i64 0), pn 28 #[.bool false, .slice none 0 0, .slice none 0 0] wr.heap.size] (by kernel_rfl) ?ob26 ?done26
                case ob26 =>
                  refine And.intro (ob_row0 rfl rfl Tryz.underlying36 (by kernel_rfl) (fun _ _ _ h => h)) ?_
                  refine And.intro (ob_move rfl (wt_none rfl) (ev_far rfl rfl) (fun _ _ h => h)) ?_
                  refine And.intro (ob_append_int rfl (wt_none rfl) (ev_dep (j := 0) (by kernel_rfl) rfl rfl) (ev_dep (j := 1) (by kernel_rfl) rfl rfl) (fun _ _ h => h) (fun w2 v hb hv => by obtain rfl := hv; exact hL.below hb) Tryz.underlying36 info_int (by omega) (fun _ _ h => h)) ?_
                  refine And.intro (ob_move rfl (wt_none rfl) (ev_far rfl rfl) (fun _ _ h => h)) ?_
                  refine And.intro (ob_call2 rfl Tryz.func29 (by kernel_rfl) (wt_none rfl) (ev_dep (j := 2) (by kernel_rfl) rfl rfl) (ev_dep (j := 3) (by kernel_rfl) rfl rfl) (fun w2 u0 u1 hb h0 h1 => by obtain rfl := h1; exact (HMQ.out ▸ fmean_ok _ _ l qs _ h0 (hV.below hb) HME.out ⟨hl8, hlen, HLQ.out⟩).mono fun e w3 h => RetQE.pd h)) ?_
                  refine And.intro (ob_move rfl (wt_none rfl) (ev_dep (j := 4) (by kernel_rfl) rfl rfl) (fun _ _ h => h)) ?_
                  refine And.intro (ob_extract rfl (wt_none rfl) (ev_dep (j := 5) (by kernel_rfl) rfl rfl) (fun w2 u hu => by obtain ⟨v, rfl, q1⟩ := hu; exact ⟨v, rfl, q1⟩)) ?_
                  refine And.intro (ob_extract rfl (wt_none rfl) (ev_dep (j := 5) (by kernel_rfl) rfl rfl) (fun w2 u hu => by obtain ⟨v, rfl, q1⟩ := hu; exact ⟨_, rfl, rfl⟩)) ?_
                  refine And.intro (ob_alloc (z := .agg #[.bool false, .slice none 0 0, .slice none 0 0]) rfl rfl (fun _ => by kernel_rfl) (fun _ _ hB h => ⟨_, rfl, hB, h⟩)) ?_
                  trivial
                case done26 =>
                  refine fun w6 hb6 v0 h0 v1 h1 v2 h2 v3 h3 v4 h4 v5 h5 v6 h6 v7 h7 v8 h8 d8 b hbf => ?_
                  obtain rfl := h1; obtain rfl := h3; obtain rfl := h7
                  clear h0
                  have q2 := h2
                  clear h4
                  clear h5
                  have q6 := h6
                  obtain ⟨g26_8, rfl, hg8, B8⟩ := h8
                  simp only [Act.put, List.setIfInBounds_toArray, List.set_cons_zero, List.set_cons_succ] at hbf
                  subst hbf
                  replace hL := hL.below hb6
                  replace hV := hV.below hb6
                  replace hU := hU.below hb6
                  replace hS := hS.below hb6
                  replace hT := hT.below hb6
                  replace bb := bb.trans (hb6.mono bb.size)
                  have hsz6 := bb.size
                  have BA12 := B8
                  obtain ⟨u6, t6, rfl, q6, d6⟩ := q6
                  obtain ⟨Am, cm, rfl, _⟩ := id q6
                  obtain ⟨Dm, em, rfl, _⟩ := id d6
                  refine ops_store (i := 9) rfl rfl rfl rfl rfl rfl (cells := [.bool (ngB (MQ).num), .slice Am (digs 4294967296 (MQ).num.natAbs).length cm, .slice Dm (digs 4294967296 (MQ).den).length em]) rfl BA12 rfl (by kernel_rfl) (one3 rfl rfl rfl) fun w7 hg7 BN7 => ?_
                  replace hV := hV.off BA12 no_ints3 hg7 (fun e => by have e2 : gV_ = g26_8 := Option.some.inj e; omega)
                  replace hU := hU.off BA12 no_ints3 hg7 (fun e => by have e2 : gU_ = g26_8 := Option.some.inj e; omega)
                  replace hS := hS.off BA12 no_ints3 hg7 (fun e => by have e2 : gS_ = g26_8 := Option.some.inj e; omega)
                  replace hT := hT.off BA12 no_ints3 hg7 (fun e => by have e2 : gT_ = g26_8 := Option.some.inj e; omega)
                  replace hL := hL.off BA12 no_ints3 hg7
                  replace q6 := off q6 BA12 no_ints3 hg7
                  replace d6 := off d6 BA12 no_ints3 hg7
                  replace bb := bb.trans ((Below.refl _ _).grown hg7 bb.size (fun g hg => by injection hg with hg; omega))
                  have hsz7 := bb.size
                  have Bm : Blk w7 (g26_8) _ _ := BN7
                  have kms := q6
                  have kmd := d6
                  have kmz : IsZ w7 (.agg #[.bool (ngB (MQ).num), .slice Am (digs 4294967296 (MQ).num.natAbs).length cm]) ((MQ).num) := ⟨_, rfl, kms⟩
                  have km : IsQ w7 (.agg #[.bool (ngB (MQ).num), .slice Am (digs 4294967296 (MQ).num.natAbs).length cm, .slice Dm (digs 4294967296 (MQ).den).length em]) (MQ) := ⟨_, _, rfl, kms, kmd⟩
                  refine ops_assign (i := 10) (.int .i64 0) rfl rfl rfl rfl rfl fun b hbf => ?_
                  simp only [Act.put, List.setIfInBounds_toArray, List.set_cons_zero, List.set_cons_succ] at hbf
                  subst hbf
                  refine ops_done ?_
                  have lz0 : lenQ (0 : Rat) 2 := ⟨by show lenZ 0 ≤ _; rw [lenZ_zero]; omega, digs_len_le (k := 2) (by omega) (by decide +kernel)⟩
                  obtain ⟨PZ, hPZ⟩ : ∃ PZ, PZ = List.zipWith (· * ·) (sharesL l) qs := ⟨_, rfl⟩
                  have hpl : PZ.length = qs.length := by rw [hPZ, List.length_zipWith, sharesL_len]; have := HLQ2.out; omega
                  have hpz : ∀ y ∈ PZ, lenQ y 29 := by
                    intro y hy
                    obtain ⟨i, hi⟩ := List.mem_iff_getElem?.1 hy
                    rw [hPZ, List.getElem?_zipWith] at hi
                    cases ha : (sharesL l)[i]? with
                    | none => rw [ha] at hi; cases hi
                    | some a =>
                      cases hb : qs[i]? with
                      | none => rw [ha, hb] at hi; cases hi
                      | some b =>
                        rw [ha, hb] at hi
                        obtain rfl := Option.some.inj hi
                        exact lenQ_mul (hls a (List.mem_of_getElem? ha)) (hq2 b (List.mem_of_getElem? hb))
                  have HPZ := Lib.hid hPZ
                  have HPL := Lib.hid hpl
                  have HPLQ := Lib.hid hpz
                  clear hPZ hpl hpz
                  have ltV7 := hV.lt hne
                  have ltU7 := hU.lt hne
                  have ltS7 := hS.lt hneS
                  have ltT7 := hT.lt hneT
                  go_upto_region 17 with (fail)
                  have lt7_12 := Blk.lt Bm
                  refine flowp 2 [pp ((0 : Rat)), pn 41 #[.bool false, .slice none 0 0, .slice none 0 0] w7.heap.size] (by kernel_rfl) ?ob27 ?done27
                  case ob27 =>
                    refine And.intro (ob_call2 rfl Tryz.func21 (by kernel_rfl) (wt_none rfl) (ev_const _) (ev_const _) (fun w2 u0 u1 hb h0 h1 => by obtain rfl := h0; obtain rfl := h1; exact (qnum_any 0 1 _ 1 rfl (by omega) (by omega) (by omega) (by omega)).mono fun e w3 h => RetPF.pd ((show mkRat 0 1 = (0 : Rat) by decide +kernel) ▸ h))) ?_
                    refine And.intro (ob_alloc (z := .agg #[.bool false, .slice none 0 0, .slice none 0 0]) rfl rfl (fun _ => by kernel_rfl) (fun _ _ hB h => ⟨_, rfl, hB, h⟩)) ?_
                    trivial
                  case done27 =>
                    refine fun w8 hb8 v0 h0 v1 h1 d1 b hbf => ?_
                    have q0 := h0
                    obtain ⟨g27_1, rfl, hg1, B1⟩ := h1
                    simp only [Act.put, List.setIfInBounds_toArray, List.set_cons_zero, List.set_cons_succ] at hbf
                    subst hbf
                    replace Bm := Bm.below hb8
                    replace kms := kms.below hb8
                    replace kmd := kmd.below hb8
                    replace kmz := kmz.below hb8
                    replace km := km.below hb8
                    replace hV := hV.below hb8
                    replace hU := hU.below hb8
                    replace hS := hS.below hb8
                    replace hT := hT.below hb8
                    replace hL := hL.below hb8
                    replace bb := bb.trans (hb8.mono bb.size)
                    have hsz8 := bb.size
                    have BA14 := B1
                    obtain ⟨u0, t0, rfl, q0, d0⟩ := q0
                    obtain ⟨Awt, cwt, rfl, _⟩ := id q0
                    obtain ⟨Dwt, ewt, rfl, _⟩ := id d0
                    refine ops_store (i := 2) rfl rfl rfl rfl rfl rfl (cells := [.bool (ngB ((0 : Rat)).num), .slice Awt (digs 10000 ((0 : Rat)).num.natAbs).length cwt, .slice Dwt (digs 10000 ((0 : Rat)).den).length ewt]) rfl BA14 rfl (by kernel_rfl) (one3 rfl rfl rfl) fun w9 hg9 BN9 => ?_
                    replace hV := hV.off BA14 no_ints3 hg9 (fun e => by have e2 : gV_ = g27_1 := Option.some.inj e; omega)
                    replace hU := hU.off BA14 no_ints3 hg9 (fun e => by have e2 : gU_ = g27_1 := Option.some.inj e; omega)
                    replace hS := hS.off BA14 no_ints3 hg9 (fun e => by have e2 : gS_ = g27_1 := Option.some.inj e; omega)
                    replace hT := hT.off BA14 no_ints3 hg9 (fun e => by have e2 : gT_ = g27_1 := Option.some.inj e; omega)
                    replace hL := hL.off BA14 no_ints3 hg9
                    replace q0 := off q0 BA14 no_ints3 hg9
                    replace d0 := off d0 BA14 no_ints3 hg9
                    replace kms := off kms BA14 no_ints3 hg9
                    replace kmd := off kmd BA14 no_ints3 hg9
                    replace kmz : IsZ w9 (.agg #[.bool (ngB (MQ).num), .slice Am (digs 4294967296 (MQ).num.natAbs).length cm]) ((MQ).num) := ⟨_, rfl, kms⟩
                    replace km : IsQ w9 (.agg #[.bool (ngB (MQ).num), .slice Am (digs 4294967296 (MQ).num.natAbs).length cm, .slice Dm (digs 4294967296 (MQ).den).length em]) (MQ) := ⟨_, _, rfl, kms, kmd⟩
                    replace Bm := Bm.grown hg9 (by omega)
                    replace bb := bb.trans ((Below.refl _ _).grown hg9 bb.size (fun g hg => by injection hg with hg; omega))
                    have hsz9 := bb.size
                    have Bwt : Blk w9 (g27_1) _ _ := BN9
                    have kwts := q0
                    have kwtd := d0
                    have kwtz : IsR w9 (.agg #[.bool (ngB ((0 : Rat)).num), .slice Awt (digs 10000 ((0 : Rat)).num.natAbs).length cwt]) (((0 : Rat)).num) := ⟨_, rfl, kwts⟩
                    have kwt : IsP w9 (.agg #[.bool (ngB ((0 : Rat)).num), .slice Awt (digs 10000 ((0 : Rat)).num.natAbs).length cwt, .slice Dwt (digs 10000 ((0 : Rat)).den).length ewt]) ((0 : Rat)) := ⟨_, _, rfl, kwts, kwtd⟩
                    refine ops_done ?_
                    go_wp2
                    go_loopw [15] (fun v15 wr => ∃ k : Nat, k ≤ qs.length ∧ HoldP wr g27_1 (sumq (PZ.take k)) ∧ HoldQ wr g26_8 MQ ∧ SlF .i64 10000 wr (.slice (some ⟨gU_, oU_, none⟩) qs.length cU) qs ∧ SlF .i64 10000 wr (.slice (some ⟨gT_, oT_, none⟩) l.length cT_) (sharesL l) ∧ Below w.heap.size w wr ∧ v15 = .int .i64 (k : Int)) (fun v15 _ => qs.length - (RowKit.intOf v15).toNat)
                    case atStart => exact ⟨0, by omega, ⟨_, _, Bwt, kwts, kwtd⟩, ⟨_, _, Bm, kms, kmd⟩, hU, hT, bb, rfl⟩
                    case round =>
                      obtain ⟨j, hj, hH1, hH2, hU_, hT_, hbw, rfl⟩ := hrel
                      clear Bwt kwts kwtd kwtz kwt Bm kms kmd kmz km hU hT hV hS hL bb
                      have hU := hU_
                      have hT := hT_
                      have bb := hbw
                      clear hU_ hT_ hbw
                      have hszr := bb.size
                      obtain ⟨t, ht⟩ : ∃ t, t = sumq (PZ.take j) := ⟨_, rfl⟩
                      have lt_ : lenQ t 241 := by rw [ht]; exact (lenQ_sumq (m := 29) fun x hx => HPLQ.out x (List.mem_of_mem_take hx)).mono (by rw [List.length_take, HPL.out]; omega)
                      rw [← ht] at hH1
                      have HT := Lib.hid ht
                      clear ht
                      obtain ⟨uwt, twt, Bwt, kwts, kwtd⟩ := hH1
                      obtain ⟨Awt, cwt, rfl, _⟩ := id kwts
                      obtain ⟨Dwt, ewt, rfl, _⟩ := id kwtd
                      have kwtz : IsR wr (.agg #[.bool (ngB (t).num), .slice Awt (digs 10000 (t).num.natAbs).length cwt]) ((t).num) := ⟨_, rfl, kwts⟩
                      have kwt : IsP wr (.agg #[.bool (ngB (t).num), .slice Awt (digs 10000 (t).num.natAbs).length cwt, .slice Dwt (digs 10000 (t).den).length ewt]) (t) := ⟨_, _, rfl, kwts, kwtd⟩
                      obtain ⟨um, tm, Bm, kms, kmd⟩ := hH2
                      obtain ⟨Am, cm, rfl, _⟩ := id kms
                      obtain ⟨Dm, em, rfl, _⟩ := id kmd
                      have kmz : IsZ wr (.agg #[.bool (ngB (MQ).num), .slice Am (digs 4294967296 (MQ).num.natAbs).length cm]) ((MQ).num) := ⟨_, rfl, kms⟩
                      have km : IsQ wr (.agg #[.bool (ngB (MQ).num), .slice Am (digs 4294967296 (MQ).num.natAbs).length cm, .slice Dm (digs 4294967296 (MQ).den).length em]) (MQ) := ⟨_, _, rfl, kms, kmd⟩
                      by_cases hjl : j < qs.length
                      · obtain ⟨x, hx⟩ : ∃ x, qs[j]? = some x := ⟨_, List.getElem?_eq_getElem hjl⟩
                        obtain ⟨s, hs⟩ : ∃ s, (sharesL l)[j]? = some s := ⟨_, List.getElem?_eq_getElem (by rw [sharesL_len]; have := HLQ2.out; omega)⟩
                        have ls : lenQ s 27 := hls s (List.mem_of_getElem? hs)
                        have lx : lenQ x 2 := hq2 _ (List.mem_of_getElem? hx)
                        have HN : Hid (t + (s * x) = sumq (PZ.take (j + 1))) := by show _ = _; rw [HPZ.out, zip_take hs hx, sumq_snoc, ← HPZ.out, HT.out]
                        have HX := Lib.hid hx
                        have HSK := Lib.hid hs
                        clear hx hs
                        obtain ⟨ue1, te1, hlte1, ze10, ze11, ze12, ze1s, ze1d⟩ := hT.at2 HSK.out
                        obtain ⟨Ae1, ce1, rfl, _⟩ := id ze1s
                        obtain ⟨De1, ee1, rfl, _⟩ := id ze1d
                        have ze1 : IsP wr (.agg #[.bool (ngB (s).num), .slice Ae1 (digs 10000 (s).num.natAbs).length ce1, .slice De1 (digs 10000 (s).den).length ee1]) (s) := ⟨_, _, rfl, ze1s, ze1d⟩
                        obtain ⟨ue2, te2, hlte2, ze20, ze21, ze22, ze2s, ze2d⟩ := hU.at2 HX.out
                        obtain ⟨Ae2, ce2, rfl, _⟩ := id ze2s
                        obtain ⟨De2, ee2, rfl, _⟩ := id ze2d
                        have ze2 : IsP wr (.agg #[.bool (ngB (x).num), .slice Ae2 (digs 10000 (x).num.natAbs).length ce2, .slice De2 (digs 10000 (x).den).length ee2]) (x) := ⟨_, _, rfl, ze2s, ze2d⟩
                        go_upto_region 21 with (fail)
                        refine flow 11 [Pd.eq (.agg #[.bool (ngB (t).num), .slice Awt (digs 10000 (t).num.natAbs).length cwt, .slice Dwt (digs 10000 (t).den).length ewt]), Pd.eq (.slice (some ⟨gT_, oT_, none⟩) l.length cT_), Pd.eq (.int .i64 (j : Int)), Pd.eq (.pointer (some ⟨gT_, oT_ + j * 3, none⟩)), Pd.eq (.agg #[.bool (ngB (s).num), .slice Ae1 (digs 10000 (s).num.natAbs).length ce1, .slice De1 (digs 10000 (s).den).length ee1]), Pd.eq (.slice (some ⟨gU_, oU_, none⟩) qs.length cU), Pd.eq (.int .i64 (j : Int)), Pd.eq (.pointer (some ⟨gU_, oU_ + j * 3, none⟩)), Pd.eq (.agg #[.bool (ngB (x).num), .slice Ae2 (digs 10000 (x).num.natAbs).length ce2, .slice De2 (digs 10000 (x).den).length ee2]), pp ((s * x)), pp ((t + (s * x)))] (by kernel_rfl) (by kernel_rfl) ?ob28 ?done28
                        case ob28 =>
                          refine And.intro (ob_load rfl (wt_none rfl) (ev_far rfl rfl) (fun w2 hb => run_loadAll Tryz.underlying41 rfl (by kernel_rfl) (Bwt.drew.below hb)) (fun _ _ => rfl)) ?_
                          refine And.intro (ob_move rfl (wt_none rfl) (ev_far rfl rfl) (fun _ _ h => h)) ?_
                          refine And.intro (ob_move rfl (wt_none rfl) (ev_far rfl rfl) (fun _ _ h => h)) ?_
                          refine And.intro (ob_indexAddr rfl (wt_none rfl) (ev_dep (j := 1) (by kernel_rfl) rfl rfl) (ev_dep (j := 2) (by kernel_rfl) rfl rfl) (fun _ _ _ hx hy => ⟨_, by rw [hx, hy]; exact index3 (k := j) Tryz.underlying29 (by kernel_rfl) hlte1 _, rfl⟩)) ?_
                          refine And.intro (ob_load rfl (wt_none rfl) (ev_dep (j := 3) (by kernel_rfl) rfl rfl) (fun w2 hb => load3 Tryz.underlying41 rfl (by kernel_rfl) ((hb.cell (World.block_lt_of_cell? wr _ ze10)).trans ze10) ((hb.cell (World.block_lt_of_cell? wr _ ze11)).trans ze11) ((hb.cell (World.block_lt_of_cell? wr _ ze12)).trans ze12)) (fun _ _ => rfl)) ?_
                          refine And.intro (ob_move rfl (wt_none rfl) (ev_far rfl rfl) (fun _ _ h => h)) ?_
                          refine And.intro (ob_move rfl (wt_none rfl) (ev_far rfl rfl) (fun _ _ h => h)) ?_
                          refine And.intro (ob_indexAddr rfl (wt_none rfl) (ev_dep (j := 5) (by kernel_rfl) rfl rfl) (ev_dep (j := 6) (by kernel_rfl) rfl rfl) (fun _ _ _ hx hy => ⟨_, by rw [hx, hy]; exact index3 (k := j) Tryz.underlying29 (by kernel_rfl) hlte2 _, rfl⟩)) ?_
                          refine And.intro (ob_load rfl (wt_none rfl) (ev_dep (j := 7) (by kernel_rfl) rfl rfl) (fun w2 hb => load3 Tryz.underlying41 rfl (by kernel_rfl) ((hb.cell (World.block_lt_of_cell? wr _ ze20)).trans ze20) ((hb.cell (World.block_lt_of_cell? wr _ ze21)).trans ze21) ((hb.cell (World.block_lt_of_cell? wr _ ze22)).trans ze22)) (fun _ _ => rfl)) ?_
                          refine And.intro (ob_call2 rfl Tryz.func31 (by kernel_rfl) (wt_none rfl) (ev_dep (j := 4) (by kernel_rfl) rfl rfl) (ev_dep (j := 8) (by kernel_rfl) rfl rfl) (fun w2 u0 u1 hb h0 h1 => by obtain rfl := h0; obtain rfl := h1; exact (qmul_any _ _ _ _ _ (ze1.drew.below hb) (ze2.drew.below hb) (ls.mono (by decide)) (lx.mono (by decide))).mono fun e w3 h => RetPF.pd h)) ?_
                          refine And.intro (ob_call2 rfl Tryz.func30 (by kernel_rfl) (wt_none rfl) (ev_dep (j := 0) (by kernel_rfl) rfl rfl) (ev_dep (j := 9) (by kernel_rfl) rfl rfl) (fun w2 u0 u1 hb h0 h1 => by obtain rfl := h0; exact (qadd_any _ _ _ _ _ (kwt.drew.below hb) h1 (lt_.mono (by decide)) ((lenQ_mul ls lx).mono (by decide))).mono fun e w3 h => RetPF.pd h)) ?_
                          trivial
                        case done28 =>
                          refine fun w10 hb10 v0 h0 v1 h1 v2 h2 v3 h3 v4 h4 v5 h5 v6 h6 v7 h7 v8 h8 v9 h9 v10 h10 b hbf => ?_
                          obtain rfl := h0; obtain rfl := h1; obtain rfl := h2; obtain rfl := h3; obtain rfl := h4; obtain rfl := h5; obtain rfl := h6; obtain rfl := h7; obtain rfl := h8
                          have q9 := h9
                          have q10 := h10
                          simp only [Act.put, List.setIfInBounds_toArray, List.set_cons_zero, List.set_cons_succ] at hbf
                          subst hbf
                          replace Bm := Bm.below hb10
                          replace kms := kms.below hb10
                          replace kmd := kmd.below hb10
                          replace kmz := kmz.below hb10
                          replace km := km.below hb10
                          replace Bwt := Bwt.below hb10
                          replace kwts := kwts.below hb10
                          replace kwtd := kwtd.below hb10
                          replace kwtz := kwtz.below hb10
                          replace kwt := kwt.below hb10
                          replace hU := hU.below hb10
                          replace hT := hT.below hb10
                          replace bb := bb.trans (hb10.mono bb.size)
                          have hsz10 := bb.size
                          obtain ⟨u10, t10, rfl, q10, d10⟩ := q10
                          obtain ⟨Aw2, cw2, rfl, _⟩ := id q10
                          obtain ⟨Dw2, ew2, rfl, _⟩ := id d10
                          refine any_store (i := 11) (by kernel_rfl) rfl rfl rfl rfl rfl rfl (cells := [.bool (ngB ((t + (s * x))).num), .slice Aw2 (digs 10000 ((t + (s * x))).num.natAbs).length cw2, .slice Dw2 (digs 10000 ((t + (s * x))).den).length ew2]) rfl Bwt rfl (by kernel_rfl) (one3 rfl rfl rfl) fun w11 hg11 BN11 => ?_
                          replace hU := hU.off Bwt no_ints3 hg11 (fun e => by have e2 : gU_ = g27_1 := Option.some.inj e; omega)
                          replace hT := hT.off Bwt no_ints3 hg11 (fun e => by have e2 : gT_ = g27_1 := Option.some.inj e; omega)
                          replace q10 := off q10 Bwt no_ints3 hg11
                          replace d10 := off d10 Bwt no_ints3 hg11
                          replace kms := off kms Bwt no_ints3 hg11
                          replace kmd := off kmd Bwt no_ints3 hg11
                          replace kmz : IsZ w11 (.agg #[.bool (ngB (MQ).num), .slice Am (digs 4294967296 (MQ).num.natAbs).length cm]) ((MQ).num) := ⟨_, rfl, kms⟩
                          replace km : IsQ w11 (.agg #[.bool (ngB (MQ).num), .slice Am (digs 4294967296 (MQ).num.natAbs).length cm, .slice Dm (digs 4294967296 (MQ).den).length em]) (MQ) := ⟨_, _, rfl, kms, kmd⟩
                          replace Bm := Bm.grown hg11 (by omega)
                          replace bb := bb.trans ((Below.refl _ _).grown hg11 bb.size (fun g hg => by injection hg with hg; omega))
                          have hsz11 := bb.size
                          have Bw2 : Blk w11 (g27_1) _ _ := BN11
                          have kw2s := q10
                          have kw2d := d10
                          have kw2z : IsR w11 (.agg #[.bool (ngB ((t + (s * x))).num), .slice Aw2 (digs 10000 ((t + (s * x))).num.natAbs).length cw2]) (((t + (s * x))).num) := ⟨_, rfl, kw2s⟩
                          have kw2 : IsP w11 (.agg #[.bool (ngB ((t + (s * x))).num), .slice Aw2 (digs 10000 ((t + (s * x))).num.natAbs).length cw2, .slice Dw2 (digs 10000 ((t + (s * x))).den).length ew2]) ((t + (s * x))) := ⟨_, _, rfl, kw2s, kw2d⟩
                          refine any_done (by kernel_rfl) ?_
                          have hsk : qs.length - (j + 1) < qs.length - j := by omega
                          go_wp2
                          go_roundw
                          case rel => exact ⟨j + 1, by omega, (by rw [← HN.out]; exact ⟨_, _, Bw2, kw2s, kw2d⟩), ⟨_, _, Bm, kms, kmd⟩, hU, hT, bb, by go_num⟩
                          case measure => simp [RowKit.intOf]; omega
                      · have HMT : Hid (MQ = t) := by show _ = _; rw [HMQ.out, HT.out, List.take_of_length_le (by rw [HPL.out]; omega), HPZ.out]; rfl
                        go_upto_region 22 with (fail)
                        refine flow 12 [Pd.eq (.int .i64 0), Pd.eq (.bool true), Pd.eq (.bool true), Pd.eq (.agg #[.bool (ngB (MQ).num), .slice Am (digs 4294967296 (MQ).num.natAbs).length cm, .slice Dm (digs 4294967296 (MQ).den).length em]), Pd.eq (.agg #[.bool (ngB (t).num), .slice Awt (digs 10000 (t).num.natAbs).length cwt, .slice Dwt (digs 10000 (t).den).length ewt]), pqn (t), Pd.eq (.bool true), Pd.eq (.bool true), Pd.eq (.bool true), Pd.eq (.bool true), Pd.eq (.bool true), Pd.eq (.bool true)] (by kernel_rfl) (by kernel_rfl) ?ob29 ?done29
                        case ob29 =>
                          refine And.intro (ob_move rfl (wt_none rfl) (ev_far rfl rfl) (fun _ _ h => h)) ?_
                          refine And.intro (ob_bin rfl (wt_none rfl) (ev_dep (j := 0) (by kernel_rfl) rfl rfl) (ev_const _) (fun _ _ _ hx hy => ⟨.bool ((0 : Int) == 0), by rw [hx, hy]; exact bin_eql_int _ _ _ _ _, congrArg Value.bool (by decide)⟩)) ?_
                          refine And.intro (ob_move rfl (wt_none rfl) (ev_dep (j := 1) (by kernel_rfl) rfl rfl) (fun _ _ h => h)) ?_
                          refine And.intro (ob_load rfl (wt_dep (c := true) (b := true) (g := 2) rfl (by kernel_rfl) rfl rfl rfl (by exact fun _ _ h => h)) (ev_far rfl rfl) (fun w2 hb => run_loadAll Tryz.underlying28 rfl (by kernel_rfl) (Bm.drew.below hb)) (fun _ _ => rfl)) ?_
                          refine And.intro (ob_load rfl (wt_dep (c := true) (b := true) (g := 2) rfl (by kernel_rfl) rfl rfl rfl (by exact fun _ _ h => h)) (ev_far rfl rfl) (fun w2 hb => run_loadAll Tryz.underlying41 rfl (by kernel_rfl) (Bwt.drew.below hb)) (fun _ _ => rfl)) ?_
                          refine And.intro (ob_call1 rfl Tryz.func13 (by kernel_rfl) (wt_dep (c := true) (b := true) (g := 2) rfl (by kernel_rfl) rfl rfl rfl (by exact fun _ _ h => h)) (ev_dep (j := 4) (by kernel_rfl) rfl rfl) (fun w2 u0 hb h0 => by obtain rfl := h0; exact (qback_any _ _ _ (kwt.drew.below hb) (lt_.mono (by decide))).mono fun e w3 h => RetQn.pd (RetQ.n h))) ?_
                          refine And.intro (ob_call2 rfl Tryz.func11 (by kernel_rfl) (wt_dep (c := true) (b := true) (g := 2) rfl (by kernel_rfl) rfl rfl rfl (by exact fun _ _ h => h)) (ev_dep (j := 3) (by kernel_rfl) rfl rfl) (ev_dep (j := 5) (by kernel_rfl) rfl rfl) (fun w2 u0 u1 hb h0 h1 => by obtain rfl := h0; exact (qsame_eq _ _ (MQ) (t) _ (km.drew.below hb) h1 HMT.out).mono fun e w3 h => RetV.pd h)) ?_
                          refine And.intro (ob_pick (b := true) rfl (wt_none rfl) (ev_dep (j := 2) (by kernel_rfl) rfl rfl) (ev_dep (j := 6) (by kernel_rfl) rfl rfl) (fun _ _ h => h)) ?_
                          refine And.intro (ob_move rfl (wt_none rfl) (ev_dep (j := 7) (by kernel_rfl) rfl rfl) (fun _ _ h => h)) ?_
                          refine And.intro (ob_call0 rfl Tryz.func23 (by kernel_rfl) (wt_dep (c := true) (b := true) (g := 8) rfl (by kernel_rfl) rfl rfl rfl (by exact fun _ _ h => h)) (fun w2 hb => (works10_any _).mono fun e w3 h => RetV.pd h)) ?_
                          refine And.intro (ob_pick (b := true) rfl (wt_none rfl) (ev_dep (j := 8) (by kernel_rfl) rfl rfl) (ev_dep (j := 9) (by kernel_rfl) rfl rfl) (fun _ _ h => h)) ?_
                          refine And.intro (ob_assign rfl (wt_none rfl) (ev_dep (j := 10) (by kernel_rfl) rfl rfl) (fun _ _ h => h)) ?_
                          trivial
                        case done29 =>
                          refine fun w10 hb10 v0 h0 v1 h1 v2 h2 v3 h3 v4 h4 v5 h5 v6 h6 v7 h7 v8 h8 v9 h9 v10 h10 v11 h11 b hbf => ?_
                          obtain rfl := h0; obtain rfl := h1; obtain rfl := h2; obtain rfl := h3; obtain rfl := h4; obtain rfl := h6; obtain rfl := h7; obtain rfl := h8; obtain rfl := h9; obtain rfl := h10; obtain rfl := h11
                          have q5 := h5
                          simp only [Act.put, List.setIfInBounds_toArray, List.set_cons_zero, List.set_cons_succ] at hbf
                          subst hbf
                          replace Bm := Bm.below hb10
                          replace kms := kms.below hb10
                          replace kmd := kmd.below hb10
                          replace kmz := kmz.below hb10
                          replace km := km.below hb10
                          replace Bwt := Bwt.below hb10
                          replace kwts := kwts.below hb10
                          replace kwtd := kwtd.below hb10
                          replace kwtz := kwtz.below hb10
                          replace kwt := kwt.below hb10
                          replace hU := hU.below hb10
                          replace hT := hT.below hb10
                          replace bb := bb.trans (hb10.mono bb.size)
                          have hsz10 := bb.size
                          refine any_done (by kernel_rfl) ?_
                          go_wp2
                          go_ret
                          exact ⟨rfl, bb⟩
    · by_cases hl0 : l = []
      · have HL0 := Lib.hid hl0
        clear hl0
        obtain ⟨E, hEd⟩ : ∃ E, E = sharesE l := ⟨_, rfl⟩
        have HE : Hid (sharesE l = E) := hEd.symm
        have hE0 : E ≠ 0 := by rw [hEd]; exact hE
        have HE0 := Lib.hid hE0
        have hEb : (E != 0) = true := by rw [bne_iff_ne]; exact hE0
        clear hE hEd hE0
        have HME : Hid (meanE l qs = E) := by show _ = _; unfold meanE; rw [if_pos HL0.out, ← HE.out, HL0.out]; rfl
        have HMN : Hid (E ≠ 0) := HE0.out
        go_upto_region 3 with (fail)
        refine flowp 9 [prow 3 w2.heap.size, Pd.eq (.slice AL l.length cL), pil l, psl .u64 4294967296 ([]) E, psl .u64 4294967296 ([]) E, pslv .u64 4294967296 ([]), Pd.eq (.int .i64 E), pslv .u64 4294967296 ([]), Pd.eq (.int .i64 E)] (by kernel_rfl) ?ob34 ?done34
        case ob34 =>
          refine And.intro (ob_row0 rfl rfl Tryz.underlying36 (by kernel_rfl) (fun _ _ _ h => h)) ?_
          refine And.intro (ob_move rfl (wt_none rfl) (ev_far rfl rfl) (fun _ _ h => h)) ?_
          refine And.intro (ob_append_int rfl (wt_none rfl) (ev_dep (j := 0) (by kernel_rfl) rfl rfl) (ev_dep (j := 1) (by kernel_rfl) rfl rfl) (fun _ _ h => h) (fun w2 v hb hv => by obtain rfl := hv; exact hL.below hb) Tryz.underlying36 info_int (by omega) (fun _ _ h => h)) ?_
          refine And.intro (ob_call1 rfl Tryz.func27 (by kernel_rfl) (wt_none rfl) (ev_dep (j := 2) (by kernel_rfl) rfl rfl) (fun w2 u0 hb h0 => by have h := (fshares_any _ l _ h0 (by omega)); rw [HE.out] at h; exact h.mono fun e w3 h => by have h2 := RetQLE.pd h; rw [if_neg HE0.out] at h2; exact h2)) ?_
          refine And.intro (ob_move rfl (wt_none rfl) (ev_dep (j := 3) (by kernel_rfl) rfl rfl) (fun _ _ h => h)) ?_
          refine And.intro (ob_extract rfl (wt_none rfl) (ev_dep (j := 4) (by kernel_rfl) rfl rfl) (fun w2 u hu => by obtain ⟨V, rfl, h1⟩ := hu; exact ⟨V, rfl, h1⟩)) ?_
          refine And.intro (ob_extract rfl (wt_none rfl) (ev_dep (j := 4) (by kernel_rfl) rfl rfl) (fun w2 u hu => by obtain ⟨V, rfl, h1⟩ := hu; exact ⟨_, rfl, rfl⟩)) ?_
          refine And.intro (ob_assign rfl (wt_none rfl) (ev_dep (j := 5) (by kernel_rfl) rfl rfl) (fun _ _ h => h)) ?_
          refine And.intro (ob_assign rfl (wt_none rfl) (ev_dep (j := 6) (by kernel_rfl) rfl rfl) (fun _ _ h => h)) ?_
          trivial
        case done34 =>
          refine fun w3 hb3 v0 h0 v1 h1 v2 h2 v3 h3 v4 h4 v5 h5 v6 h6 v7 h7 v8 h8 b hbf => ?_
          obtain rfl := h1; obtain rfl := h6; obtain rfl := h8
          clear h0
          have q2 := h2
          clear h3
          clear h4
          have q5 := h5
          have q7 := h7
          simp only [Act.put, List.setIfInBounds_toArray, List.set_cons_zero, List.set_cons_succ] at hbf
          subst hbf
          replace hL := hL.below hb3
          replace hV := hV.below hb3
          replace hU := hU.below hb3
          replace bb := bb.trans (hb3.mono bb.size)
          have hsz3 := bb.size
          obtain ⟨AS_, cS_, rfl, _, _⟩ := (show SlF _ _ _ _ [] from q7).shape
          refine ops_done ?_
          go_upto_region 4 with (fail)
          refine flowp 7 [Pd.eq (.slice AL l.length cL), psl .i64 10000 ([]) E, psl .i64 10000 ([]) E, pslv .i64 10000 ([]), Pd.eq (.int .i64 E), pslv .i64 10000 ([]), Pd.eq (.int .i64 E)] (by kernel_rfl) ?ob35 ?done35
          case ob35 =>
            refine And.intro (ob_move rfl (wt_none rfl) (ev_far rfl rfl) (fun _ _ h => h)) ?_
            refine And.intro (ob_call1 rfl Tryz.func28 (by kernel_rfl) (wt_none rfl) (ev_dep (j := 0) (by kernel_rfl) rfl rfl) (fun w2 u0 hb h0 => by obtain rfl := h0; have h := (rshares_any _ l _ (hL.below hb) (by omega)); rw [HE.out] at h; exact h.mono fun e w3 h => by have h2 := RetLE.pd h; rw [if_neg HE0.out] at h2; exact h2)) ?_
            refine And.intro (ob_move rfl (wt_none rfl) (ev_dep (j := 1) (by kernel_rfl) rfl rfl) (fun _ _ h => h)) ?_
            refine And.intro (ob_extract rfl (wt_none rfl) (ev_dep (j := 2) (by kernel_rfl) rfl rfl) (fun w2 u hu => by obtain ⟨V, rfl, h1⟩ := hu; exact ⟨V, rfl, h1⟩)) ?_
            refine And.intro (ob_extract rfl (wt_none rfl) (ev_dep (j := 2) (by kernel_rfl) rfl rfl) (fun w2 u hu => by obtain ⟨V, rfl, h1⟩ := hu; exact ⟨_, rfl, rfl⟩)) ?_
            refine And.intro (ob_assign rfl (wt_none rfl) (ev_dep (j := 3) (by kernel_rfl) rfl rfl) (fun _ _ h => h)) ?_
            refine And.intro (ob_assign rfl (wt_none rfl) (ev_dep (j := 4) (by kernel_rfl) rfl rfl) (fun _ _ h => h)) ?_
            trivial
          case done35 =>
            refine fun w4 hb4 v0 h0 v1 h1 v2 h2 v3 h3 v4 h4 v5 h5 v6 h6 b hbf => ?_
            obtain rfl := h0; obtain rfl := h4; obtain rfl := h6
            clear h1
            clear h2
            have q3 := h3
            have q5 := h5
            simp only [Act.put, List.setIfInBounds_toArray, List.set_cons_zero, List.set_cons_succ] at hbf
            subst hbf
            replace hL := hL.below hb4
            replace hV := hV.below hb4
            replace hU := hU.below hb4
            replace bb := bb.trans (hb4.mono bb.size)
            have hsz4 := bb.size
            obtain ⟨AT_, cT_, rfl, _, _⟩ := (show SlF _ _ _ _ [] from q5).shape
            refine ops_done ?_
            go_wp2
            go_loopw [11] (fun v11 wr => v11 = .int .i64 0 ∧ Below w.heap.size w wr ∧ Below w4.heap.size w4 wr) (fun _ _ => 0)
            case atStart => exact ⟨rfl, bb, Below.refl _ _⟩
            case round =>
              obtain ⟨rfl, hbw, hbj⟩ := hrel
              replace hL := hL.below hbj
              replace hV := hV.below hbj
              replace hU := hU.below hbj
              replace bb := bb.trans (hbj.mono bb.size)
              have hsz5 := bb.size
              have hq3 : ¬ (0 : Int) < ((l.length : Nat) : Int) := by rw [HL0.out]; simp
              go_upto_region 12 with (fail)
              refine flowp 9 [prow 3 wr.heap.size, Pd.eq (.slice AL l.length cL), pil l, Pd.eq (.slice AV qs.length cV), Pd.eq (.tuple #[.agg #[.bool false, .slice none 0 0, .slice none 0 0], .int .i64 E]), Pd.eq (.tuple #[.agg #[.bool false, .slice none 0 0, .slice none 0 0], .int .i64 E]), Pd.eq (.agg #[.bool false, .slice none 0 0, .slice none 0 0]), Pd.eq (.int .i64 E), pn 28 #[.bool false, .slice none 0 0, .slice none 0 0] wr.heap.size] (by kernel_rfl) ?ob36 ?done36
              case ob36 =>
                refine And.intro (ob_row0 rfl rfl Tryz.underlying36 (by kernel_rfl) (fun _ _ _ h => h)) ?_
                refine And.intro (ob_move rfl (wt_none rfl) (ev_far rfl rfl) (fun _ _ h => h)) ?_
                refine And.intro (ob_append_int rfl (wt_none rfl) (ev_dep (j := 0) (by kernel_rfl) rfl rfl) (ev_dep (j := 1) (by kernel_rfl) rfl rfl) (fun _ _ h => h) (fun w2 v hb hv => by obtain rfl := hv; exact hL.below hb) Tryz.underlying36 info_int (by omega) (fun _ _ h => h)) ?_
                refine And.intro (ob_move rfl (wt_none rfl) (ev_far rfl rfl) (fun _ _ h => h)) ?_
                refine And.intro (ob_call2 rfl Tryz.func29 (by kernel_rfl) (wt_none rfl) (ev_dep (j := 2) (by kernel_rfl) rfl rfl) (ev_dep (j := 3) (by kernel_rfl) rfl rfl) (fun w2 u0 u1 hb h0 h1 => by obtain rfl := h1; exact (fmean_no _ _ l qs _ _ h0 (hV.below hb) HME.out HMN.out ⟨hl8, hlen, HLQ.out⟩).mono fun e w3 h => RetQN.pd h)) ?_
                refine And.intro (ob_move rfl (wt_none rfl) (ev_dep (j := 4) (by kernel_rfl) rfl rfl) (fun _ _ h => h)) ?_
                refine And.intro (ob_extract rfl (wt_none rfl) (ev_dep (j := 5) (by kernel_rfl) rfl rfl) (fun w2 u hu => by obtain rfl := hu; exact ⟨_, rfl, rfl⟩)) ?_
                refine And.intro (ob_extract rfl (wt_none rfl) (ev_dep (j := 5) (by kernel_rfl) rfl rfl) (fun w2 u hu => by obtain rfl := hu; exact ⟨_, rfl, rfl⟩)) ?_
                refine And.intro (ob_alloc (z := .agg #[.bool false, .slice none 0 0, .slice none 0 0]) rfl rfl (fun _ => by kernel_rfl) (fun _ _ hB h => ⟨_, rfl, hB, h⟩)) ?_
                trivial
              case done36 =>
                refine fun w6 hb6 v0 h0 v1 h1 v2 h2 v3 h3 v4 h4 v5 h5 v6 h6 v7 h7 v8 h8 d8 b hbf => ?_
                obtain rfl := h1; obtain rfl := h3; obtain rfl := h4; obtain rfl := h5; obtain rfl := h6; obtain rfl := h7
                clear h0
                have q2 := h2
                obtain ⟨g36_8, rfl, hg8, B8⟩ := h8
                simp only [Act.put, List.setIfInBounds_toArray, List.set_cons_zero, List.set_cons_succ] at hbf
                subst hbf
                replace hL := hL.below hb6
                replace hV := hV.below hb6
                replace hU := hU.below hb6
                replace bb := bb.trans (hb6.mono bb.size)
                have hsz6 := bb.size
                have BA12 := B8
                refine ops_store (i := 9) rfl rfl rfl rfl rfl rfl (cells := [.bool false, .slice none 0 0, .slice none 0 0]) rfl BA12 rfl (by kernel_rfl) (one3 rfl rfl rfl) fun w7 hg7 BN7 => ?_
                replace bb := bb.trans ((Below.refl _ _).grown hg7 bb.size (fun g hg => by injection hg with hg; omega))
                have hsz7 := bb.size
                replace BA12 : Blk w7 (g36_8) _ #[.bool false, .slice none 0 0, .slice none 0 0] := BN7
                refine ops_assign (i := 10) (.int .i64 E) rfl rfl rfl rfl rfl fun b hbf => ?_
                simp only [Act.put, List.setIfInBounds_toArray, List.set_cons_zero, List.set_cons_succ] at hbf
                subst hbf
                refine ops_done ?_
                go_wp2_with fail
                refine (works10_any _).mono ?_
                rintro e w9 ⟨rfl, b9⟩
                have bb9 := bb.trans (b9.mono bb.size)
                go_wp2
                go_ret
                exact ⟨rfl, bb9⟩
      · by_cases hlq : l.length ≠ qs.length
        · obtain ⟨E, hEd⟩ : ∃ E, E = sharesE l := ⟨_, rfl⟩
          have HE : Hid (sharesE l = E) := hEd.symm
          have hE0 : E ≠ 0 := by rw [hEd]; exact hE
          have HE0 := Lib.hid hE0
          have hEb : (E != 0) = true := by rw [bne_iff_ne]; exact hE0
          clear hE hEd hE0
          have HME : Hid (meanE l qs = 2) := by show _ = _; unfold meanE; rw [if_neg hl0, if_pos hlq]
          have HMN : Hid ((2 : Int) ≠ 0) := by show _ ≠ _; omega
          go_upto_region 3 with (fail)
          refine flowp 9 [prow 3 w2.heap.size, Pd.eq (.slice AL l.length cL), pil l, psl .u64 4294967296 ([]) E, psl .u64 4294967296 ([]) E, pslv .u64 4294967296 ([]), Pd.eq (.int .i64 E), pslv .u64 4294967296 ([]), Pd.eq (.int .i64 E)] (by kernel_rfl) ?ob40 ?done40
          case ob40 =>
            refine And.intro (ob_row0 rfl rfl Tryz.underlying36 (by kernel_rfl) (fun _ _ _ h => h)) ?_
            refine And.intro (ob_move rfl (wt_none rfl) (ev_far rfl rfl) (fun _ _ h => h)) ?_
            refine And.intro (ob_append_int rfl (wt_none rfl) (ev_dep (j := 0) (by kernel_rfl) rfl rfl) (ev_dep (j := 1) (by kernel_rfl) rfl rfl) (fun _ _ h => h) (fun w2 v hb hv => by obtain rfl := hv; exact hL.below hb) Tryz.underlying36 info_int (by omega) (fun _ _ h => h)) ?_
            refine And.intro (ob_call1 rfl Tryz.func27 (by kernel_rfl) (wt_none rfl) (ev_dep (j := 2) (by kernel_rfl) rfl rfl) (fun w2 u0 hb h0 => by have h := (fshares_any _ l _ h0 (by omega)); rw [HE.out] at h; exact h.mono fun e w3 h => by have h2 := RetQLE.pd h; rw [if_neg HE0.out] at h2; exact h2)) ?_
            refine And.intro (ob_move rfl (wt_none rfl) (ev_dep (j := 3) (by kernel_rfl) rfl rfl) (fun _ _ h => h)) ?_
            refine And.intro (ob_extract rfl (wt_none rfl) (ev_dep (j := 4) (by kernel_rfl) rfl rfl) (fun w2 u hu => by obtain ⟨V, rfl, h1⟩ := hu; exact ⟨V, rfl, h1⟩)) ?_
            refine And.intro (ob_extract rfl (wt_none rfl) (ev_dep (j := 4) (by kernel_rfl) rfl rfl) (fun w2 u hu => by obtain ⟨V, rfl, h1⟩ := hu; exact ⟨_, rfl, rfl⟩)) ?_
            refine And.intro (ob_assign rfl (wt_none rfl) (ev_dep (j := 5) (by kernel_rfl) rfl rfl) (fun _ _ h => h)) ?_
            refine And.intro (ob_assign rfl (wt_none rfl) (ev_dep (j := 6) (by kernel_rfl) rfl rfl) (fun _ _ h => h)) ?_
            trivial
          case done40 =>
            refine fun w3 hb3 v0 h0 v1 h1 v2 h2 v3 h3 v4 h4 v5 h5 v6 h6 v7 h7 v8 h8 b hbf => ?_
            obtain rfl := h1; obtain rfl := h6; obtain rfl := h8
            clear h0
            have q2 := h2
            clear h3
            clear h4
            have q5 := h5
            have q7 := h7
            simp only [Act.put, List.setIfInBounds_toArray, List.set_cons_zero, List.set_cons_succ] at hbf
            subst hbf
            replace hL := hL.below hb3
            replace hV := hV.below hb3
            replace hU := hU.below hb3
            replace bb := bb.trans (hb3.mono bb.size)
            have hsz3 := bb.size
            obtain ⟨AS_, cS_, rfl, _, _⟩ := (show SlF _ _ _ _ [] from q7).shape
            refine ops_done ?_
            go_upto_region 4 with (fail)
            refine flowp 7 [Pd.eq (.slice AL l.length cL), psl .i64 10000 ([]) E, psl .i64 10000 ([]) E, pslv .i64 10000 ([]), Pd.eq (.int .i64 E), pslv .i64 10000 ([]), Pd.eq (.int .i64 E)] (by kernel_rfl) ?ob41 ?done41
            case ob41 =>
              refine And.intro (ob_move rfl (wt_none rfl) (ev_far rfl rfl) (fun _ _ h => h)) ?_
              refine And.intro (ob_call1 rfl Tryz.func28 (by kernel_rfl) (wt_none rfl) (ev_dep (j := 0) (by kernel_rfl) rfl rfl) (fun w2 u0 hb h0 => by obtain rfl := h0; have h := (rshares_any _ l _ (hL.below hb) (by omega)); rw [HE.out] at h; exact h.mono fun e w3 h => by have h2 := RetLE.pd h; rw [if_neg HE0.out] at h2; exact h2)) ?_
              refine And.intro (ob_move rfl (wt_none rfl) (ev_dep (j := 1) (by kernel_rfl) rfl rfl) (fun _ _ h => h)) ?_
              refine And.intro (ob_extract rfl (wt_none rfl) (ev_dep (j := 2) (by kernel_rfl) rfl rfl) (fun w2 u hu => by obtain ⟨V, rfl, h1⟩ := hu; exact ⟨V, rfl, h1⟩)) ?_
              refine And.intro (ob_extract rfl (wt_none rfl) (ev_dep (j := 2) (by kernel_rfl) rfl rfl) (fun w2 u hu => by obtain ⟨V, rfl, h1⟩ := hu; exact ⟨_, rfl, rfl⟩)) ?_
              refine And.intro (ob_assign rfl (wt_none rfl) (ev_dep (j := 3) (by kernel_rfl) rfl rfl) (fun _ _ h => h)) ?_
              refine And.intro (ob_assign rfl (wt_none rfl) (ev_dep (j := 4) (by kernel_rfl) rfl rfl) (fun _ _ h => h)) ?_
              trivial
            case done41 =>
              refine fun w4 hb4 v0 h0 v1 h1 v2 h2 v3 h3 v4 h4 v5 h5 v6 h6 b hbf => ?_
              obtain rfl := h0; obtain rfl := h4; obtain rfl := h6
              clear h1
              clear h2
              have q3 := h3
              have q5 := h5
              simp only [Act.put, List.setIfInBounds_toArray, List.set_cons_zero, List.set_cons_succ] at hbf
              subst hbf
              replace hL := hL.below hb4
              replace hV := hV.below hb4
              replace hU := hU.below hb4
              replace bb := bb.trans (hb4.mono bb.size)
              have hsz4 := bb.size
              obtain ⟨AT_, cT_, rfl, _, _⟩ := (show SlF _ _ _ _ [] from q5).shape
              refine ops_done ?_
              go_wp2
              go_loopw [11] (fun v11 wr => v11 = .int .i64 0 ∧ Below w.heap.size w wr ∧ Below w4.heap.size w4 wr) (fun _ _ => 0)
              case atStart => exact ⟨rfl, bb, Below.refl _ _⟩
              case round =>
                obtain ⟨rfl, hbw, hbj⟩ := hrel
                replace hL := hL.below hbj
                replace hV := hV.below hbj
                replace hU := hU.below hbj
                replace bb := bb.trans (hbj.mono bb.size)
                have hsz5 := bb.size
                have hlp := List.length_pos_iff.2 hl0
                have hq1 : (((l.length : Nat) : Int) != ((qs.length : Nat) : Int)) = true := by rw [bne_iff_ne]; omega
                have hq3 : (0 : Int) < ((l.length : Nat) : Int) := by omega
                go_upto_region 12 with (fail)
                refine flowp 9 [prow 3 wr.heap.size, Pd.eq (.slice AL l.length cL), pil l, Pd.eq (.slice AV qs.length cV), Pd.eq (.tuple #[.agg #[.bool false, .slice none 0 0, .slice none 0 0], .int .i64 2]), Pd.eq (.tuple #[.agg #[.bool false, .slice none 0 0, .slice none 0 0], .int .i64 2]), Pd.eq (.agg #[.bool false, .slice none 0 0, .slice none 0 0]), Pd.eq (.int .i64 2), pn 28 #[.bool false, .slice none 0 0, .slice none 0 0] wr.heap.size] (by kernel_rfl) ?ob42 ?done42
                case ob42 =>
                  refine And.intro (ob_row0 rfl rfl Tryz.underlying36 (by kernel_rfl) (fun _ _ _ h => h)) ?_
                  refine And.intro (ob_move rfl (wt_none rfl) (ev_far rfl rfl) (fun _ _ h => h)) ?_
                  refine And.intro (ob_append_int rfl (wt_none rfl) (ev_dep (j := 0) (by kernel_rfl) rfl rfl) (ev_dep (j := 1) (by kernel_rfl) rfl rfl) (fun _ _ h => h) (fun w2 v hb hv => by obtain rfl := hv; exact hL.below hb) Tryz.underlying36 info_int (by omega) (fun _ _ h => h)) ?_
                  refine And.intro (ob_move rfl (wt_none rfl) (ev_far rfl rfl) (fun _ _ h => h)) ?_
                  refine And.intro (ob_call2 rfl Tryz.func29 (by kernel_rfl) (wt_none rfl) (ev_dep (j := 2) (by kernel_rfl) rfl rfl) (ev_dep (j := 3) (by kernel_rfl) rfl rfl) (fun w2 u0 u1 hb h0 h1 => by obtain rfl := h1; exact (fmean_no _ _ l qs _ _ h0 (hV.below hb) HME.out HMN.out ⟨hl8, hlen, HLQ.out⟩).mono fun e w3 h => RetQN.pd h)) ?_
                  refine And.intro (ob_move rfl (wt_none rfl) (ev_dep (j := 4) (by kernel_rfl) rfl rfl) (fun _ _ h => h)) ?_
                  refine And.intro (ob_extract rfl (wt_none rfl) (ev_dep (j := 5) (by kernel_rfl) rfl rfl) (fun w2 u hu => by obtain rfl := hu; exact ⟨_, rfl, rfl⟩)) ?_
                  refine And.intro (ob_extract rfl (wt_none rfl) (ev_dep (j := 5) (by kernel_rfl) rfl rfl) (fun w2 u hu => by obtain rfl := hu; exact ⟨_, rfl, rfl⟩)) ?_
                  refine And.intro (ob_alloc (z := .agg #[.bool false, .slice none 0 0, .slice none 0 0]) rfl rfl (fun _ => by kernel_rfl) (fun _ _ hB h => ⟨_, rfl, hB, h⟩)) ?_
                  trivial
                case done42 =>
                  refine fun w6 hb6 v0 h0 v1 h1 v2 h2 v3 h3 v4 h4 v5 h5 v6 h6 v7 h7 v8 h8 d8 b hbf => ?_
                  obtain rfl := h1; obtain rfl := h3; obtain rfl := h4; obtain rfl := h5; obtain rfl := h6; obtain rfl := h7
                  clear h0
                  have q2 := h2
                  obtain ⟨g42_8, rfl, hg8, B8⟩ := h8
                  simp only [Act.put, List.setIfInBounds_toArray, List.set_cons_zero, List.set_cons_succ] at hbf
                  subst hbf
                  replace hL := hL.below hb6
                  replace hV := hV.below hb6
                  replace hU := hU.below hb6
                  replace bb := bb.trans (hb6.mono bb.size)
                  have hsz6 := bb.size
                  have BA12 := B8
                  refine ops_store (i := 9) rfl rfl rfl rfl rfl rfl (cells := [.bool false, .slice none 0 0, .slice none 0 0]) rfl BA12 rfl (by kernel_rfl) (one3 rfl rfl rfl) fun w7 hg7 BN7 => ?_
                  replace bb := bb.trans ((Below.refl _ _).grown hg7 bb.size (fun g hg => by injection hg with hg; omega))
                  have hsz7 := bb.size
                  replace BA12 : Blk w7 (g42_8) _ #[.bool false, .slice none 0 0, .slice none 0 0] := BN7
                  refine ops_assign (i := 10) (.int .i64 2) rfl rfl rfl rfl rfl fun b hbf => ?_
                  simp only [Act.put, List.setIfInBounds_toArray, List.set_cons_zero, List.set_cons_succ] at hbf
                  subst hbf
                  refine ops_done ?_
                  go_wp2_with fail
                  refine (works10_any _).mono ?_
                  rintro e w9 ⟨rfl, b9⟩
                  have bb9 := bb.trans (b9.mono bb.size)
                  go_wp2
                  go_ret
                  exact ⟨rfl, bb9⟩
        · have HLQ2 : Hid (l.length = qs.length) := by show _ = _; omega
          clear hlq
          obtain ⟨E, hEd⟩ : ∃ E, E = sharesE l := ⟨_, rfl⟩
          have HE : Hid (sharesE l = E) := hEd.symm
          have hE0 : E ≠ 0 := by rw [hEd]; exact hE
          have HE0 := Lib.hid hE0
          have hEb : (E != 0) = true := by rw [bne_iff_ne]; exact hE0
          clear hE hEd hE0
          have HME : Hid (meanE l qs = E) := by show _ = _; unfold meanE; rw [if_neg hl0, if_neg (by rw [HLQ2.out]; simp), HE.out]
          have HMN : Hid (E ≠ 0) := HE0.out
          go_upto_region 3 with (fail)
          refine flowp 9 [prow 3 w2.heap.size, Pd.eq (.slice AL l.length cL), pil l, psl .u64 4294967296 ([]) E, psl .u64 4294967296 ([]) E, pslv .u64 4294967296 ([]), Pd.eq (.int .i64 E), pslv .u64 4294967296 ([]), Pd.eq (.int .i64 E)] (by kernel_rfl) ?ob37 ?done37
          case ob37 =>
            refine And.intro (ob_row0 rfl rfl Tryz.underlying36 (by kernel_rfl) (fun _ _ _ h => h)) ?_
            refine And.intro (ob_move rfl (wt_none rfl) (ev_far rfl rfl) (fun _ _ h => h)) ?_
            refine And.intro (ob_append_int rfl (wt_none rfl) (ev_dep (j := 0) (by kernel_rfl) rfl rfl) (ev_dep (j := 1) (by kernel_rfl) rfl rfl) (fun _ _ h => h) (fun w2 v hb hv => by obtain rfl := hv; exact hL.below hb) Tryz.underlying36 info_int (by omega) (fun _ _ h => h)) ?_
            refine And.intro (ob_call1 rfl Tryz.func27 (by kernel_rfl) (wt_none rfl) (ev_dep (j := 2) (by kernel_rfl) rfl rfl) (fun w2 u0 hb h0 => by have h := (fshares_any _ l _ h0 (by omega)); rw [HE.out] at h; exact h.mono fun e w3 h => by have h2 := RetQLE.pd h; rw [if_neg HE0.out] at h2; exact h2)) ?_
            refine And.intro (ob_move rfl (wt_none rfl) (ev_dep (j := 3) (by kernel_rfl) rfl rfl) (fun _ _ h => h)) ?_
            refine And.intro (ob_extract rfl (wt_none rfl) (ev_dep (j := 4) (by kernel_rfl) rfl rfl) (fun w2 u hu => by obtain ⟨V, rfl, h1⟩ := hu; exact ⟨V, rfl, h1⟩)) ?_
            refine And.intro (ob_extract rfl (wt_none rfl) (ev_dep (j := 4) (by kernel_rfl) rfl rfl) (fun w2 u hu => by obtain ⟨V, rfl, h1⟩ := hu; exact ⟨_, rfl, rfl⟩)) ?_
            refine And.intro (ob_assign rfl (wt_none rfl) (ev_dep (j := 5) (by kernel_rfl) rfl rfl) (fun _ _ h => h)) ?_
            refine And.intro (ob_assign rfl (wt_none rfl) (ev_dep (j := 6) (by kernel_rfl) rfl rfl) (fun _ _ h => h)) ?_
            trivial
          case done37 =>
            refine fun w3 hb3 v0 h0 v1 h1 v2 h2 v3 h3 v4 h4 v5 h5 v6 h6 v7 h7 v8 h8 b hbf => ?_
            obtain rfl := h1; obtain rfl := h6; obtain rfl := h8
            clear h0
            have q2 := h2
            clear h3
            clear h4
            have q5 := h5
            have q7 := h7
            simp only [Act.put, List.setIfInBounds_toArray, List.set_cons_zero, List.set_cons_succ] at hbf
            subst hbf
            replace hL := hL.below hb3
            replace hV := hV.below hb3
            replace hU := hU.below hb3
            replace bb := bb.trans (hb3.mono bb.size)
            have hsz3 := bb.size
            obtain ⟨AS_, cS_, rfl, _, _⟩ := (show SlF _ _ _ _ [] from q7).shape
            refine ops_done ?_
            go_upto_region 4 with (fail)
            refine flowp 7 [Pd.eq (.slice AL l.length cL), psl .i64 10000 ([]) E, psl .i64 10000 ([]) E, pslv .i64 10000 ([]), Pd.eq (.int .i64 E), pslv .i64 10000 ([]), Pd.eq (.int .i64 E)] (by kernel_rfl) ?ob38 ?done38
            case ob38 =>
              refine And.intro (ob_move rfl (wt_none rfl) (ev_far rfl rfl) (fun _ _ h => h)) ?_
              refine And.intro (ob_call1 rfl Tryz.func28 (by kernel_rfl) (wt_none rfl) (ev_dep (j := 0) (by kernel_rfl) rfl rfl) (fun w2 u0 hb h0 => by obtain rfl := h0; have h := (rshares_any _ l _ (hL.below hb) (by omega)); rw [HE.out] at h; exact h.mono fun e w3 h => by have h2 := RetLE.pd h; rw [if_neg HE0.out] at h2; exact h2)) ?_
              refine And.intro (ob_move rfl (wt_none rfl) (ev_dep (j := 1) (by kernel_rfl) rfl rfl) (fun _ _ h => h)) ?_
              refine And.intro (ob_extract rfl (wt_none rfl) (ev_dep (j := 2) (by kernel_rfl) rfl rfl) (fun w2 u hu => by obtain ⟨V, rfl, h1⟩ := hu; exact ⟨V, rfl, h1⟩)) ?_
              refine And.intro (ob_extract rfl (wt_none rfl) (ev_dep (j := 2) (by kernel_rfl) rfl rfl) (fun w2 u hu => by obtain ⟨V, rfl, h1⟩ := hu; exact ⟨_, rfl, rfl⟩)) ?_
              refine And.intro (ob_assign rfl (wt_none rfl) (ev_dep (j := 3) (by kernel_rfl) rfl rfl) (fun _ _ h => h)) ?_
              refine And.intro (ob_assign rfl (wt_none rfl) (ev_dep (j := 4) (by kernel_rfl) rfl rfl) (fun _ _ h => h)) ?_
              trivial
            case done38 =>
              refine fun w4 hb4 v0 h0 v1 h1 v2 h2 v3 h3 v4 h4 v5 h5 v6 h6 b hbf => ?_
              obtain rfl := h0; obtain rfl := h4; obtain rfl := h6
              clear h1
              clear h2
              have q3 := h3
              have q5 := h5
              simp only [Act.put, List.setIfInBounds_toArray, List.set_cons_zero, List.set_cons_succ] at hbf
              subst hbf
              replace hL := hL.below hb4
              replace hV := hV.below hb4
              replace hU := hU.below hb4
              replace bb := bb.trans (hb4.mono bb.size)
              have hsz4 := bb.size
              obtain ⟨AT_, cT_, rfl, _, _⟩ := (show SlF _ _ _ _ [] from q5).shape
              refine ops_done ?_
              go_wp2
              go_loopw [11] (fun v11 wr => v11 = .int .i64 0 ∧ Below w.heap.size w wr ∧ Below w4.heap.size w4 wr) (fun _ _ => 0)
              case atStart => exact ⟨rfl, bb, Below.refl _ _⟩
              case round =>
                obtain ⟨rfl, hbw, hbj⟩ := hrel
                replace hL := hL.below hbj
                replace hV := hV.below hbj
                replace hU := hU.below hbj
                replace bb := bb.trans (hbj.mono bb.size)
                have hsz5 := bb.size
                have hq1 : (((l.length : Nat) : Int) != ((qs.length : Nat) : Int)) = false := by rw [HLQ2.out]; exact bne_self_eq_false _
                have hlp := List.length_pos_iff.2 hl0
                have hq3 : (0 : Int) < ((l.length : Nat) : Int) := by omega
                go_upto_region 12 with (fail)
                refine flowp 9 [prow 3 wr.heap.size, Pd.eq (.slice AL l.length cL), pil l, Pd.eq (.slice AV qs.length cV), Pd.eq (.tuple #[.agg #[.bool false, .slice none 0 0, .slice none 0 0], .int .i64 E]), Pd.eq (.tuple #[.agg #[.bool false, .slice none 0 0, .slice none 0 0], .int .i64 E]), Pd.eq (.agg #[.bool false, .slice none 0 0, .slice none 0 0]), Pd.eq (.int .i64 E), pn 28 #[.bool false, .slice none 0 0, .slice none 0 0] wr.heap.size] (by kernel_rfl) ?ob39 ?done39
                case ob39 =>
                  refine And.intro (ob_row0 rfl rfl Tryz.underlying36 (by kernel_rfl) (fun _ _ _ h => h)) ?_
                  refine And.intro (ob_move rfl (wt_none rfl) (ev_far rfl rfl) (fun _ _ h => h)) ?_
                  refine And.intro (ob_append_int rfl (wt_none rfl) (ev_dep (j := 0) (by kernel_rfl) rfl rfl) (ev_dep (j := 1) (by kernel_rfl) rfl rfl) (fun _ _ h => h) (fun w2 v hb hv => by obtain rfl := hv; exact hL.below hb) Tryz.underlying36 info_int (by omega) (fun _ _ h => h)) ?_
                  refine And.intro (ob_move rfl (wt_none rfl) (ev_far rfl rfl) (fun _ _ h => h)) ?_
                  refine And.intro (ob_call2 rfl Tryz.func29 (by kernel_rfl) (wt_none rfl) (ev_dep (j := 2) (by kernel_rfl) rfl rfl) (ev_dep (j := 3) (by kernel_rfl) rfl rfl) (fun w2 u0 u1 hb h0 h1 => by obtain rfl := h1; exact (fmean_no _ _ l qs _ _ h0 (hV.below hb) HME.out HMN.out ⟨hl8, hlen, HLQ.out⟩).mono fun e w3 h => RetQN.pd h)) ?_
                  refine And.intro (ob_move rfl (wt_none rfl) (ev_dep (j := 4) (by kernel_rfl) rfl rfl) (fun _ _ h => h)) ?_
                  refine And.intro (ob_extract rfl (wt_none rfl) (ev_dep (j := 5) (by kernel_rfl) rfl rfl) (fun w2 u hu => by obtain rfl := hu; exact ⟨_, rfl, rfl⟩)) ?_
                  refine And.intro (ob_extract rfl (wt_none rfl) (ev_dep (j := 5) (by kernel_rfl) rfl rfl) (fun w2 u hu => by obtain rfl := hu; exact ⟨_, rfl, rfl⟩)) ?_
                  refine And.intro (ob_alloc (z := .agg #[.bool false, .slice none 0 0, .slice none 0 0]) rfl rfl (fun _ => by kernel_rfl) (fun _ _ hB h => ⟨_, rfl, hB, h⟩)) ?_
                  trivial
                case done39 =>
                  refine fun w6 hb6 v0 h0 v1 h1 v2 h2 v3 h3 v4 h4 v5 h5 v6 h6 v7 h7 v8 h8 d8 b hbf => ?_
                  obtain rfl := h1; obtain rfl := h3; obtain rfl := h4; obtain rfl := h5; obtain rfl := h6; obtain rfl := h7
                  clear h0
                  have q2 := h2
                  obtain ⟨g39_8, rfl, hg8, B8⟩ := h8
                  simp only [Act.put, List.setIfInBounds_toArray, List.set_cons_zero, List.set_cons_succ] at hbf
                  subst hbf
                  replace hL := hL.below hb6
                  replace hV := hV.below hb6
                  replace hU := hU.below hb6
                  replace bb := bb.trans (hb6.mono bb.size)
                  have hsz6 := bb.size
                  have BA12 := B8
                  refine ops_store (i := 9) rfl rfl rfl rfl rfl rfl (cells := [.bool false, .slice none 0 0, .slice none 0 0]) rfl BA12 rfl (by kernel_rfl) (one3 rfl rfl rfl) fun w7 hg7 BN7 => ?_
                  replace bb := bb.trans ((Below.refl _ _).grown hg7 bb.size (fun g hg => by injection hg with hg; omega))
                  have hsz7 := bb.size
                  replace BA12 : Blk w7 (g39_8) _ #[.bool false, .slice none 0 0, .slice none 0 0] := BN7
                  refine ops_assign (i := 10) (.int .i64 E) rfl rfl rfl rfl rfl fun b hbf => ?_
                  simp only [Act.put, List.setIfInBounds_toArray, List.set_cons_zero, List.set_cons_succ] at hbf
                  subst hbf
                  refine ops_done ?_
                  go_wp2_with fail
                  refine (works10_any _).mono ?_
                  rintro e w9 ⟨rfl, b9⟩
                  have bb9 := bb.trans (b9.mono bb.size)
                  go_wp2
                  go_ret
                  exact ⟨rfl, bb9⟩
set_option maxRecDepth 100000 in
theorem lifted (os : Os) (started : os.Started) (H : Type) (enc : TypeId × Value → H) :
    ReturnsInHanded {} Tryz.checked os 5 .any (Rows.foldSharesSpec.pre6 enc Tryz.prog Tryz.f5 Rows.foldSharesRow.domain false) (Rows.foldSharesSpec.post enc Tryz.prog Tryz.f5 false true false false) := by
  refine returnsInHanded_of_change (C := Tryz.checked) own started (by kernel_rfl) Tryz.func5
    (ChangeSpec.witness6 (enc := enc) (C := Tryz.checked) false ⟨#[], #[.slice none 0 0, .slice none 0 0], []⟩ 8 (by kernel_rfl) (by kernel_rfl) (by kernel_rfl) (by kernel_rfl)) ?_
  intro W base args ds gs before hval0 hW hcnd _
  have hval : ∀ (j : Nat) t v, Tryz.f5.params[j]? = some t → args[j]? = some v → Value.okWide Tryz.prog W .any base t v := hval0
  have hW' := hW
  obtain ⟨p, q, hA0, hV, rfl, hfz, hnd⟩ := hW
  have hA : DataW.TrodAll enc Tryz.prog W 0 (fun _ => true) true Tryz.f5.params.toList args.toList ds p := hA0
  rw [Tryz.params5] at hA hval
  obtain ⟨v0, vs0, d0, ds0, p0, q0, hargs, rfl, rfl, t0, r0⟩ := trodAll_cons hA
  obtain ⟨v1, vs1, d1, ds1, p1, q1, rfl, rfl, rfl, t1, r1⟩ := trodAll_cons r0
  obtain ⟨rfl, rfl, rfl⟩ := trodAll_nil r1
  obtain rfl : args = #[v0, v1] := by cases args; simp_all
  obtain ⟨rfl, rfl⟩ := trodVars_none hV
  obtain ⟨l0, hs0⟩ := arg_is Tryz.underlying36 Tryz.underlying3 (by kernel_rfl) (hval 0 36 v0 rfl rfl) t0
  have hs1 := arg_qs Tryz.underlying22 Tryz.underlying28 (by kernel_rfl) (by kernel_rfl) Tryz.underlying26 (by kernel_rfl) Tryz.underlying4 Tryz.underlying24 Tryz.underlying24 Tryz.underlying71 cells_u (hval 1 22 v1 rfl rfl) t1
  clear hA0 hval0
  simp only [List.append_nil] at hW'
  have hlt0 : ∀ x ∈ p0, x.block < W.heap.size := fun x hx => hW'.lt x (List.mem_append_left _ hx)
  have hlt1 : ∀ x ∈ p1, x.block < W.heap.size := fun x hx => hW'.lt x (List.mem_append_right _ (hx))
  refine (walk v0 l0 v1 W hs0 hs1).mono fun e W' ⟨he, hb⟩ => ?_
  subst he
  have s0 := Below.trod laidOut (by kernel_rfl) (of_decide_eq_true (by kernel_rfl)) t0 hb hlt0
  have s1 := Below.trod laidOut (by kernel_rfl) (of_decide_eq_true (by kernel_rfl)) t1 hb hlt1
  exact ⟨_, rfl, _, _, _, [] ++ [], _, [], hW', trodAll_cons_mk (shut_bool Tryz.underlying4 _) trodAll_mk0, trodAll_cons_mk s0 (trodAll_cons_mk s1 (trodAll_mk0)), rfl, hb.frame _, fun h => by cases h⟩
theorem over : Rows.foldSharesRow.holds Tryz.pinned (OpenSpec.ofChange Rows.foldSharesSpec) :=
  OpenClaim.holds_of_wide 5 Tryz.f5 rfl rfl rfl rfl rfl rfl rfl ⟨rfl, rfl, rfl, rfl, rfl⟩ rfl rfl rfl rfl rfl (by kernel_rfl) Tryz.func5 (by kernel_rfl)
    (of_decide_eq_true (by kernel_rfl)) (by unfold Func.isWrapper; first | (rw [if_pos (by decide +kernel)]; kernel_rfl) | (rw [if_neg (by decide +kernel)]; exact ⟨rfl, rfl⟩))
    (fun os started H enc _ => lifted os started H enc)
/-- The statement. -/
theorem proved : Rows.FoldSharesSaid := over
end Go.Proofs.YtlnmoledijlemaaGreat.foldShares
