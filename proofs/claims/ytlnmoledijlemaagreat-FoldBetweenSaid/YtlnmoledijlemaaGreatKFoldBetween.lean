/- FoldBetween: shares are a whole, and a mean lies from the least to the greatest one. Condition: the arguments can be read as data. -/
import Derived.Test.YtlnmoledijlemaaGreatK6
import Derived.Deep.Cut
import Derived.OpenShut
import Derived.LaidMore
import Derived.Lay
import Derived.Stop.Joined
namespace Go.Proofs.YtlnmoledijlemaaGreat.foldBetween
open Go.ChangeShapes Go.WideShapes Go.ChangeAt Go.RowKit Go.Proofs.YtlnmoledijlemaaGreat.num Go.Proofs.YtlnmoledijlemaaGreat.mem Go.Proofs.YtlnmoledijlemaaGreat.nat Go.Proofs.YtlnmoledijlemaaGreat.txt Go.Proofs.YtlnmoledijlemaaGreat.str Go.Proofs.YtlnmoledijlemaaGreat.flow Go.Proofs.YtlnmoledijlemaaGreat.whl Go.Proofs.YtlnmoledijlemaaGreat.rat
set_option linter.unusedVariables false
theorem own : ownKnob Tryz.prog.godebug = none := by kernel_rfl
theorem laidOut : laidOutB Tryz.prog = true := by kernel_rfl
theorem cells_u : Tryz.prog.cellsOf 71 = 1 := by kernel_rfl
set_option maxHeartbeats 6400000 in
set_option maxRecDepth 100000 in
/-- The walk: the Go text returns true; what was there is as it was. -/
theorem walk (v0 : Value) (l0 : List Int) (v1 : Value) (w : World) (h0 : IsI w v0 l0) (h1 : ArgQs w v1) :
    Calls Tryz.prog 7 #[v0, v1] w (RetV (.bool true) w) := by
  obtain ⟨A0, c0, rfl, hc0, hm0⟩ := h0.shape
  have bb : Below w.heap.size w w := Below.refl _ _
  have hsz0 := bb.size
  go_enter Tryz.func7, Tryz.ntmps7
  go_wp2_with fail
  refine (works10_any _).mono ?_
  rintro e w1 ⟨rfl, b1⟩
  replace bb := bb.trans (b1.mono bb.size)
  have hsz1 := bb.size
  go_wp2_with fail
  refine (few_any v1 _ (h1.below bb)).mono ?_
  rintro e w2 ⟨V, U, qs, rfl, hV, hU, hlen, hlq, hb2, hfV, hfU⟩
  clear hfV hfU
  replace bb := bb.trans (hb2.mono bb.size)
  have hsz2 := bb.size
  have hq2 : ∀ q ∈ qs, lenQ q 2 := hlq
  obtain ⟨SM, hSM⟩ : ∃ SM, SM = sumq qs := ⟨_, rfl⟩
  obtain ⟨PR, hPR⟩ : ∃ PR, PR = prodq qs := ⟨_, rfl⟩
  obtain ⟨WB, hWB⟩ : ∃ WB, WB = decide (wholeQ qs) := ⟨_, rfl⟩
  have HLQ := Lib.hid hlq
  have lSM : lenQ SM 25 := by rw [hSM]; exact (lenQ_sumq hlq).mono (by omega)
  have lPR : lenQ PR 25 := by rw [hPR]; exact (lenQ_prodq hlq).mono (by omega)
  have HSM := Lib.hid hSM.symm
  have HPR := Lib.hid hPR.symm
  have HWB := Lib.hid hWB
  have HLS : Hid ((∀ q ∈ qs, lenQ q 2) ∧ (2 + 1) * qs.length + 1 ≤ 1000) := ⟨hlq, by omega⟩
  have HLP : Hid ((∀ q ∈ qs, lenQ q 2) ∧ 2 * qs.length + 1 ≤ 1000) := ⟨hlq, by omega⟩
  have HL8 : Hid (qs.length ≤ 8) := hlen
  clear hSM hPR hWB hlq hq2
  have lq1 : lenQ (1 : Rat) 1 := ⟨digs_len_le (k := 1) (by omega) (by decide +kernel), digs_len_le (k := 1) (by omega) (by decide +kernel)⟩
  have hq2 := HLQ.out
  obtain ⟨AV, cV, rfl, hcV, hmV⟩ := hV.shape
  obtain ⟨n, hn⟩ : ∃ n, n = min l0.length qs.length := ⟨_, rfl⟩
  obtain ⟨l, hl⟩ : ∃ l, l = l0.take n := ⟨_, rfl⟩
  obtain ⟨y, hy⟩ : ∃ y, y = qs.take n := ⟨_, rfl⟩
  have hll : l.length = n := by rw [hl, List.length_take]; omega
  have hyl : y.length = n := by rw [hy, List.length_take]; omega
  have hn8 : n ≤ 8 := by omega
  have hI0 : IsI w (.slice A0 n c0) l := by rw [hl]; exact h0.take (by omega)
  have HI0 := Lib.hid (hI0.below bb)
  have HY := Lib.hid hy
  have HLL := Lib.hid hll
  have HYL := Lib.hid hyl
  have hl8 : l.length ≤ 8 := by omega
  have hlen2 : y.length ≤ 8 := by omega
  have HLY : Hid (∀ q ∈ y, lenQ q 2) := by intro q hq; rw [hy] at hq; exact hq2 q (List.mem_of_mem_take hq)
  have HZB : Hid (∀ z ∈ l, -9223372036854775808 ≤ z ∧ z ≤ 9223372036854775807) := by
    obtain ⟨_, _, _, _, _, hz, _⟩ := h0
    intro z hz2
    rw [hl] at hz2
    exact hz z (List.mem_of_mem_take hz2)
  have hn0 : n ≤ c0 := by omega
  have hnV : n ≤ cV := by omega
  have hnq : n ≤ qs.length := by omega
  have HMN_ : Hid (min l0.length qs.length = n) := hn.symm
  clear hI0 hl hy hll hyl hn
  go_upto_region 4 with (fail)
  refine flowp 6 [Pd.eq (.slice A0 l0.length c0), Pd.eq (.int .i64 ((l0.length : Nat) : Int)), Pd.eq (.slice AV qs.length cV), Pd.eq (.int .i64 ((qs.length : Nat) : Int)), Pd.eq (.int .i64 (((min l0.length qs.length) : Nat) : Int)), Pd.eq (.int .i64 (((min l0.length qs.length) : Nat) : Int))] (by kernel_rfl) ?ob71 ?done71
  case ob71 =>
    refine And.intro (ob_move rfl (wt_none rfl) (ev_far rfl rfl) (fun _ _ h => h)) ?_
    refine And.intro (ob_len rfl (wt_none rfl) (ev_dep (j := 0) (by kernel_rfl) rfl rfl) (fun _ _ hx => ⟨_, by rw [hx]; exact len_slice Tryz.underlying36 _ _ _ _, rfl⟩)) ?_
    refine And.intro (ob_move rfl (wt_none rfl) (ev_far rfl rfl) (fun _ _ h => h)) ?_
    refine And.intro (ob_len rfl (wt_none rfl) (ev_dep (j := 2) (by kernel_rfl) rfl rfl) (fun _ _ hx => ⟨_, by rw [hx]; exact len_slice Tryz.underlying22 _ _ _ _, rfl⟩)) ?_
    refine And.intro (ob_min rfl (wt_none rfl) (ev_dep (j := 1) (by kernel_rfl) rfl rfl) (ev_dep (j := 3) (by kernel_rfl) rfl rfl) (fun _ _ _ hx hy => ⟨_, by rw [hx, hy]; exact min_nat (l0.length) (qs.length) _, rfl⟩)) ?_
    refine And.intro (ob_assign rfl (wt_none rfl) (ev_dep (j := 4) (by kernel_rfl) rfl rfl) (fun _ _ h => h)) ?_
    trivial
  case done71 =>
    refine fun w3 hb3 v0 h0 v1 h1 v2 h2 v3 h3 v4 h4 v5 h5 b hbf => ?_
    obtain rfl := h0; obtain rfl := h1; obtain rfl := h2; obtain rfl := h3; obtain rfl := h4; obtain rfl := h5
    simp only [Act.put, List.setIfInBounds_toArray, List.set_cons_zero, List.set_cons_succ] at hbf
    subst hbf
    replace hV := hV.below hb3
    replace bb := bb.trans (hb3.mono bb.size)
    have hsz3 := bb.size
    refine ops_done ?_
    rw [HMN_.out]
    have HI9 := Lib.hid (HI0.out.below hb3)
    go_upto_region 5 with (fail)
    refine flows 8 [prow 3 w3.heap.size, Pd.eq (.slice A0 l0.length c0), Pd.eq (.int .i64 ((n : Nat) : Int)), Pd.eq (.slice A0 n c0), pil l, Pd.eq (.slice AV qs.length cV), Pd.eq (.int .i64 ((n : Nat) : Int)), Pd.eq (.slice AV n cV)] (by kernel_rfl) [5, 6, 7] (by kernel_rfl) (fun _ _ _ d _ h => by cases d <;> exact h) ⟨⟨_, rfl, late_move rfl (wt_none rfl) (ev_far rfl rfl) (fun _ _ h => h)⟩, ⟨_, rfl, late_move rfl (wt_none rfl) (ev_far rfl rfl) (fun _ _ h => h)⟩, ⟨_, rfl, late_slice_to rfl (wt_none rfl) (ev_dep (j := 5) (by kernel_rfl) rfl rfl) (ev_dep (j := 6) (by kernel_rfl) rfl rfl) (fun _ _ _ hx hy => ⟨_, fun _ => by rw [hx, hy]; exact cut_slice Tryz.underlying22 (by kernel_rfl) AV _ cV n hnV _, rfl⟩)⟩, trivial⟩ ?ob72 ?done72
    case ob72 =>
      refine And.intro (ob_row0 rfl rfl Tryz.underlying36 (by kernel_rfl) (fun _ _ _ h => h)) ?_
      refine And.intro (ob_move rfl (wt_none rfl) (ev_far rfl rfl) (fun _ _ h => h)) ?_
      refine And.intro (ob_move rfl (wt_none rfl) (ev_far rfl rfl) (fun _ _ h => h)) ?_
      refine And.intro (ob_slice_to rfl (wt_none rfl) (ev_dep (j := 1) (by kernel_rfl) rfl rfl) (ev_dep (j := 2) (by kernel_rfl) rfl rfl) (fun _ _ _ hx hy => ⟨_, by rw [hx, hy]; exact cut_slice Tryz.underlying36 (by kernel_rfl) A0 _ c0 n hn0 _, rfl⟩)) ?_
      refine And.intro (ob_append_int rfl (wt_none rfl) (ev_dep (j := 0) (by kernel_rfl) rfl rfl) (ev_dep (j := 3) (by kernel_rfl) rfl rfl) (fun _ _ h => h) (fun w2 v hb hv => by obtain rfl := hv; exact HI9.out.drew.below hb) Tryz.underlying36 info_int (by omega) (fun _ _ h => h)) ?_
      refine And.intro (ob_move rfl (wt_none rfl) (ev_far rfl rfl) (fun _ _ h => h)) ?_
      refine And.intro (ob_move rfl (wt_none rfl) (ev_far rfl rfl) (fun _ _ h => h)) ?_
      refine And.intro (ob_slice_to rfl (wt_none rfl) (ev_dep (j := 5) (by kernel_rfl) rfl rfl) (ev_dep (j := 6) (by kernel_rfl) rfl rfl) (fun _ _ _ hx hy => ⟨_, by rw [hx, hy]; exact cut_slice Tryz.underlying22 (by kernel_rfl) AV _ cV n hnV _, rfl⟩)) ?_
      trivial
    case done72 =>
      refine fun w4 hb4 v0 h0 v1 h1 v2 h2 v3 h3 v4 h4 v5 h5 v6 h6 v7 h7 b hbf => ?_
      obtain rfl := h1; obtain rfl := h2; obtain rfl := h3; obtain rfl := h5; obtain rfl := h6; obtain rfl := h7
      clear h0
      have q4 := h4
      simp only [Act.put, List.setIfInBounds_toArray, List.set_cons_zero, List.set_cons_succ] at hbf
      subst hbf
      replace hV := hV.below hb4
      replace bb := bb.trans (hb4.mono bb.size)
      have hsz4 := bb.size
      have hL := q4
      obtain ⟨AL, cL, rfl, hcL, hmL⟩ := hL.shape
      refine any_assign (i := 8) (.slice AL l.length cL) (by kernel_rfl) rfl rfl rfl rfl rfl fun b hbf => ?_
      simp only [Act.put, List.setIfInBounds_toArray, List.set_cons_zero] at hbf
      subst hbf
      refine any_assign (i := 9) (.slice AV n cV) (by kernel_rfl) rfl rfl rfl rfl rfl fun b hbf => ?_
      simp only [Act.put, List.setIfInBounds_toArray, List.set_cons_zero, List.set_cons_succ] at hbf
      subst hbf
      refine any_done (by kernel_rfl) ?_
      have hX : SlF .u64 4294967296 w4 (.slice AV n cV) y := by rw [HY.out]; exact hV.take hnq
      clear hV
      by_cases hE : sharesE l = 0
      · have HE := Lib.hid hE
        have hne_l : l ≠ [] := by
          rintro rfl
          have := HE.out
          unfold sharesE at this
          rw [if_pos rfl] at this
          cases this
        have hlp : 0 < l.length := List.length_pos_iff.2 hne_l
        have hneS : sharesL l ≠ [] := List.length_pos_iff.1 (by rw [sharesL_len]; exact hlp)
        have hneX : y ≠ [] := List.length_pos_iff.1 (by have h1 := HLL.out; have h2 := HYL.out; omega)
        have hls : ∀ s ∈ sharesL l, lenQ s 27 := fun s hs => shares_len HZB.out hl8 HE.out s hs
        have HME : Hid (meanE l y = 0) := by show _ = _; unfold meanE; rw [if_neg hne_l, if_neg (by rw [HLL.out, HYL.out]; simp), HE.out]
        have hbt := mean_between (qs := y) HE.out (by rw [HLL.out, HYL.out])
        have HWB : Hid (true = decide (wholeQ (sharesL l))) := (decide_eq_true (shares_whole HE.out).2).symm
        have HLS2 : Hid ((∀ q ∈ sharesL l, lenQ q 27) ∧ (27 + 1) * (sharesL l).length + 1 ≤ 1000) := ⟨hls, by rw [sharesL_len]; omega⟩
        obtain ⟨MQ, hMQ⟩ : ∃ MQ, MQ = meanq l y := ⟨_, rfl⟩
        obtain ⟨LO, hLO⟩ : ∃ LO, LO = leastq y := ⟨_, rfl⟩
        obtain ⟨HI, hHI⟩ : ∃ HI, HI = greatq y := ⟨_, rfl⟩
        have lMQ : lenQ MQ 241 := by rw [hMQ]; exact meanq_len hls HLY.out hlen2
        have lLO : lenQ LO 2 := by rw [hLO]; exact HLY.out _ (leastq_mem hneX)
        have lHI : lenQ HI 2 := by rw [hHI]; exact HLY.out _ (greatq_mem hneX)
        rw [← hMQ, ← hLO, ← hHI] at hbt
        have HLE1 : Hid (ordq LO MQ ≤ 0) := Int.not_lt.1 fun h => Rat.not_lt.2 hbt.1 (ordq_pos.1 h)
        have HLE2 : Hid (ordq MQ HI ≤ 0) := Int.not_lt.1 fun h => Rat.not_lt.2 hbt.2 (ordq_pos.1 h)
        have HMQ := Lib.hid hMQ
        have HLO := Lib.hid hLO
        have HHI := Lib.hid hHI
        clear hE hbt hMQ hLO hHI
        obtain ⟨gX_, oX_, cX_, hv, _, _, _⟩ := hX.place hneX
        injection hv with e1 e2 e3
        subst e1
        clear e2 e3
        go_upto_region 6 with (fail)
        refine flowp 7 [Pd.eq (.slice AL l.length cL), psl .u64 4294967296 (sharesL l) 0, psl .u64 4294967296 (sharesL l) 0, pslv .u64 4294967296 (sharesL l), Pd.eq (.int .i64 0), pslv .u64 4294967296 (sharesL l), Pd.eq (.int .i64 0)] (by kernel_rfl) ?ob73 ?done73
        case ob73 =>
          refine And.intro (ob_move rfl (wt_none rfl) (ev_far rfl rfl) (fun _ _ h => h)) ?_
          refine And.intro (ob_call1 rfl Tryz.func27 (by kernel_rfl) (wt_none rfl) (ev_dep (j := 0) (by kernel_rfl) rfl rfl) (fun w2 u0 hb h0 => by obtain rfl := h0; have h := (fshares_any _ l _ (hL.below hb) (by omega)); rw [HE.out] at h; exact h.mono fun e w3 h => RetQLE.pd h)) ?_
          refine And.intro (ob_move rfl (wt_none rfl) (ev_dep (j := 1) (by kernel_rfl) rfl rfl) (fun _ _ h => h)) ?_
          refine And.intro (ob_extract rfl (wt_none rfl) (ev_dep (j := 2) (by kernel_rfl) rfl rfl) (fun w2 u hu => by obtain ⟨V, rfl, h1⟩ := hu; exact ⟨V, rfl, h1⟩)) ?_
          refine And.intro (ob_extract rfl (wt_none rfl) (ev_dep (j := 2) (by kernel_rfl) rfl rfl) (fun w2 u hu => by obtain ⟨V, rfl, h1⟩ := hu; exact ⟨_, rfl, rfl⟩)) ?_
          refine And.intro (ob_assign rfl (wt_none rfl) (ev_dep (j := 3) (by kernel_rfl) rfl rfl) (fun _ _ h => h)) ?_
          refine And.intro (ob_assign rfl (wt_none rfl) (ev_dep (j := 4) (by kernel_rfl) rfl rfl) (fun _ _ h => h)) ?_
          trivial
        case done73 =>
          refine fun w5 hb5 v0 h0 v1 h1 v2 h2 v3 h3 v4 h4 v5 h5 v6 h6 b hbf => ?_
          obtain rfl := h0; obtain rfl := h4; obtain rfl := h6
          clear h1
          clear h2
          have q3 := h3
          have q5 := h5
          simp only [Act.put, List.setIfInBounds_toArray, List.set_cons_zero, List.set_cons_succ] at hbf
          subst hbf
          replace hL := hL.below hb5
          replace hX := hX.below hb5
          replace bb := bb.trans (hb5.mono bb.size)
          have hsz5 := bb.size
          have hS := q5
          obtain ⟨gS_, oS_, cS_, rfl, _, _, hmS_⟩ := (show SlF _ _ _ _ _ from hS).place hneS
          clear hmS_
          refine ops_done ?_
          have ltX5 := hX.lt hneX
          have ltS5 := (show SlF _ _ _ _ _ from hS).lt hneS
          go_upto_region 7 with (fail)
          refine flowp 7 [Pd.eq (.slice AL l.length cL), Pd.eq (.slice (some ⟨gX_, oX_, none⟩) n cV), pqe (MQ) 0, pqe (MQ) 0, pqn (MQ), Pd.eq (.int .i64 0), pn 28 #[.bool false, .slice none 0 0, .slice none 0 0] w5.heap.size] (by kernel_rfl) ?ob74 ?done74
          case ob74 =>
            refine And.intro (ob_move rfl (wt_none rfl) (ev_far rfl rfl) (fun _ _ h => h)) ?_
            refine And.intro (ob_move rfl (wt_none rfl) (ev_far rfl rfl) (fun _ _ h => h)) ?_
            refine And.intro (ob_call2 rfl Tryz.func29 (by kernel_rfl) (wt_none rfl) (ev_dep (j := 0) (by kernel_rfl) rfl rfl) (ev_dep (j := 1) (by kernel_rfl) rfl rfl) (fun w2 u0 u1 hb h0 h1 => by obtain rfl := h0; obtain rfl := h1; exact (HMQ.out ▸ fmean_ok _ _ l y _ (hL.below hb) (hX.below hb) HME.out ⟨hl8, hlen2, HLY.out⟩).mono fun e w3 h => RetQE.pd h)) ?_
            refine And.intro (ob_move rfl (wt_none rfl) (ev_dep (j := 2) (by kernel_rfl) rfl rfl) (fun _ _ h => h)) ?_
            refine And.intro (ob_extract rfl (wt_none rfl) (ev_dep (j := 3) (by kernel_rfl) rfl rfl) (fun w2 u hu => by obtain ⟨v, rfl, q1⟩ := hu; exact ⟨v, rfl, q1⟩)) ?_
            refine And.intro (ob_extract rfl (wt_none rfl) (ev_dep (j := 3) (by kernel_rfl) rfl rfl) (fun w2 u hu => by obtain ⟨v, rfl, q1⟩ := hu; exact ⟨_, rfl, rfl⟩)) ?_
            refine And.intro (ob_alloc (z := .agg #[.bool false, .slice none 0 0, .slice none 0 0]) rfl rfl (fun _ => by kernel_rfl) (fun _ _ hB h => ⟨_, rfl, hB, h⟩)) ?_
            trivial
          case done74 =>
            refine fun w6 hb6 v0 h0 v1 h1 v2 h2 v3 h3 v4 h4 v5 h5 v6 h6 d6 b hbf => ?_
            obtain rfl := h0; obtain rfl := h1; obtain rfl := h5
            clear h2
            clear h3
            have q4 := h4
            obtain ⟨g74_6, rfl, hg6, B6⟩ := h6
            simp only [Act.put, List.setIfInBounds_toArray, List.set_cons_zero, List.set_cons_succ] at hbf
            subst hbf
            replace hL := hL.below hb6
            replace hX := hX.below hb6
            replace hS := hS.below hb6
            replace bb := bb.trans (hb6.mono bb.size)
            have hsz6 := bb.size
            have BA10 := B6
            obtain ⟨u4, t4, rfl, q4, d4⟩ := q4
            obtain ⟨Am, cm, rfl, _⟩ := id q4
            obtain ⟨Dm, em, rfl, _⟩ := id d4
            refine ops_store (i := 7) rfl rfl rfl rfl rfl rfl (cells := [.bool (ngB (MQ).num), .slice Am (digs 4294967296 (MQ).num.natAbs).length cm, .slice Dm (digs 4294967296 (MQ).den).length em]) rfl BA10 rfl (by kernel_rfl) (one3 rfl rfl rfl) fun w7 hg7 BN7 => ?_
            replace hX := hX.off BA10 no_ints3 hg7 (fun e => by have e2 : gX_ = g74_6 := Option.some.inj e; omega)
            replace hS := hS.off BA10 no_ints3 hg7 (fun e => by have e2 : gS_ = g74_6 := Option.some.inj e; omega)
            replace hL := hL.off BA10 no_ints3 hg7
            replace q4 := off q4 BA10 no_ints3 hg7
            replace d4 := off d4 BA10 no_ints3 hg7
            replace bb := bb.trans ((Below.refl _ _).grown hg7 bb.size (fun g hg => by injection hg with hg; omega))
            have hsz7 := bb.size
            have Bm : Blk w7 (g74_6) _ _ := BN7
            have kms := q4
            have kmd := d4
            have kmz : IsZ w7 (.agg #[.bool (ngB (MQ).num), .slice Am (digs 4294967296 (MQ).num.natAbs).length cm]) ((MQ).num) := ⟨_, rfl, kms⟩
            have km : IsQ w7 (.agg #[.bool (ngB (MQ).num), .slice Am (digs 4294967296 (MQ).num.natAbs).length cm, .slice Dm (digs 4294967296 (MQ).den).length em]) (MQ) := ⟨_, _, rfl, kms, kmd⟩
            refine ops_assign (i := 8) (.int .i64 0) rfl rfl rfl rfl rfl fun b hbf => ?_
            simp only [Act.put, List.setIfInBounds_toArray, List.set_cons_zero, List.set_cons_succ] at hbf
            subst hbf
            refine ops_done ?_
            have ltX7 := hX.lt hneX
            have ltS7 := (show SlF _ _ _ _ _ from hS).lt hneS
            go_upto_region 10 with (fail)
            have lt7_10 := Blk.lt Bm
            refine flowp 6 [Pd.eq (.slice (some ⟨gX_, oX_, none⟩) n cV), pqe (LO) 0, pqe (LO) 0, pqn (LO), Pd.eq (.int .i64 0), pn 28 #[.bool false, .slice none 0 0, .slice none 0 0] w7.heap.size] (by kernel_rfl) ?ob75 ?done75
            case ob75 =>
              refine And.intro (ob_move rfl (wt_none rfl) (ev_far rfl rfl) (fun _ _ h => h)) ?_
              refine And.intro (ob_call1 rfl Tryz.func24 (by kernel_rfl) (wt_none rfl) (ev_dep (j := 0) (by kernel_rfl) rfl rfl) (fun w2 u0 hb h0 => by obtain rfl := h0; exact (HLO.out ▸ fleast_ok _ y _ (hX.below hb) hneX ⟨hlen2, HLY.out⟩).mono fun e w3 h => RetQE.pd h)) ?_
              refine And.intro (ob_move rfl (wt_none rfl) (ev_dep (j := 1) (by kernel_rfl) rfl rfl) (fun _ _ h => h)) ?_
              refine And.intro (ob_extract rfl (wt_none rfl) (ev_dep (j := 2) (by kernel_rfl) rfl rfl) (fun w2 u hu => by obtain ⟨v, rfl, q1⟩ := hu; exact ⟨v, rfl, q1⟩)) ?_
              refine And.intro (ob_extract rfl (wt_none rfl) (ev_dep (j := 2) (by kernel_rfl) rfl rfl) (fun w2 u hu => by obtain ⟨v, rfl, q1⟩ := hu; exact ⟨_, rfl, rfl⟩)) ?_
              refine And.intro (ob_alloc (z := .agg #[.bool false, .slice none 0 0, .slice none 0 0]) rfl rfl (fun _ => by kernel_rfl) (fun _ _ hB h => ⟨_, rfl, hB, h⟩)) ?_
              trivial
            case done75 =>
              refine fun w8 hb8 v0 h0 v1 h1 v2 h2 v3 h3 v4 h4 v5 h5 d5 b hbf => ?_
              obtain rfl := h0; obtain rfl := h4
              clear h1
              clear h2
              have q3 := h3
              obtain ⟨g75_5, rfl, hg5, B5⟩ := h5
              simp only [Act.put, List.setIfInBounds_toArray, List.set_cons_zero, List.set_cons_succ] at hbf
              subst hbf
              replace Bm := Bm.below hb8
              replace kms := kms.below hb8
              replace kmd := kmd.below hb8
              replace kmz := kmz.below hb8
              replace km := km.below hb8
              replace hX := hX.below hb8
              replace hS := hS.below hb8
              replace hL := hL.below hb8
              replace bb := bb.trans (hb8.mono bb.size)
              have hsz8 := bb.size
              have BA12 := B5
              obtain ⟨u3, t3, rfl, q3, d3⟩ := q3
              obtain ⟨Alo, clo, rfl, _⟩ := id q3
              obtain ⟨Dlo, elo, rfl, _⟩ := id d3
              refine ops_store (i := 6) rfl rfl rfl rfl rfl rfl (cells := [.bool (ngB (LO).num), .slice Alo (digs 4294967296 (LO).num.natAbs).length clo, .slice Dlo (digs 4294967296 (LO).den).length elo]) rfl BA12 rfl (by kernel_rfl) (one3 rfl rfl rfl) fun w9 hg9 BN9 => ?_
              replace hX := hX.off BA12 no_ints3 hg9 (fun e => by have e2 : gX_ = g75_5 := Option.some.inj e; omega)
              replace hS := hS.off BA12 no_ints3 hg9 (fun e => by have e2 : gS_ = g75_5 := Option.some.inj e; omega)
              replace hL := hL.off BA12 no_ints3 hg9
              replace q3 := off q3 BA12 no_ints3 hg9
              replace d3 := off d3 BA12 no_ints3 hg9
              replace kms := off kms BA12 no_ints3 hg9
              replace kmd := off kmd BA12 no_ints3 hg9
              replace kmz : IsZ w9 (.agg #[.bool (ngB (MQ).num), .slice Am (digs 4294967296 (MQ).num.natAbs).length cm]) ((MQ).num) := ⟨_, rfl, kms⟩
              replace km : IsQ w9 (.agg #[.bool (ngB (MQ).num), .slice Am (digs 4294967296 (MQ).num.natAbs).length cm, .slice Dm (digs 4294967296 (MQ).den).length em]) (MQ) := ⟨_, _, rfl, kms, kmd⟩
              replace Bm := Bm.grown hg9 (by omega)
              replace bb := bb.trans ((Below.refl _ _).grown hg9 bb.size (fun g hg => by injection hg with hg; omega))
              have hsz9 := bb.size
              have Blo : Blk w9 (g75_5) _ _ := BN9
              have klos := q3
              have klod := d3
              have kloz : IsZ w9 (.agg #[.bool (ngB (LO).num), .slice Alo (digs 4294967296 (LO).num.natAbs).length clo]) ((LO).num) := ⟨_, rfl, klos⟩
              have klo : IsQ w9 (.agg #[.bool (ngB (LO).num), .slice Alo (digs 4294967296 (LO).num.natAbs).length clo, .slice Dlo (digs 4294967296 (LO).den).length elo]) (LO) := ⟨_, _, rfl, klos, klod⟩
              refine ops_assign (i := 7) (.int .i64 0) rfl rfl rfl rfl rfl fun b hbf => ?_
              simp only [Act.put, List.setIfInBounds_toArray, List.set_cons_zero, List.set_cons_succ] at hbf
              subst hbf
              refine ops_done ?_
              have ltX9 := hX.lt hneX
              have ltS9 := (show SlF _ _ _ _ _ from hS).lt hneS
              go_upto_region 11 with (fail)
              have lt9_10 := Blk.lt Bm
              have lt9_12 := Blk.lt Blo
              refine flowp 6 [Pd.eq (.slice (some ⟨gX_, oX_, none⟩) n cV), pqe (HI) 0, pqe (HI) 0, pqn (HI), Pd.eq (.int .i64 0), pn 28 #[.bool false, .slice none 0 0, .slice none 0 0] w9.heap.size] (by kernel_rfl) ?ob76 ?done76
              case ob76 =>
                refine And.intro (ob_move rfl (wt_none rfl) (ev_far rfl rfl) (fun _ _ h => h)) ?_
                refine And.intro (ob_call1 rfl Tryz.func25 (by kernel_rfl) (wt_none rfl) (ev_dep (j := 0) (by kernel_rfl) rfl rfl) (fun w2 u0 hb h0 => by obtain rfl := h0; exact (HHI.out ▸ fgreat_ok _ y _ (hX.below hb) hneX ⟨hlen2, HLY.out⟩).mono fun e w3 h => RetQE.pd h)) ?_
                refine And.intro (ob_move rfl (wt_none rfl) (ev_dep (j := 1) (by kernel_rfl) rfl rfl) (fun _ _ h => h)) ?_
                refine And.intro (ob_extract rfl (wt_none rfl) (ev_dep (j := 2) (by kernel_rfl) rfl rfl) (fun w2 u hu => by obtain ⟨v, rfl, q1⟩ := hu; exact ⟨v, rfl, q1⟩)) ?_
                refine And.intro (ob_extract rfl (wt_none rfl) (ev_dep (j := 2) (by kernel_rfl) rfl rfl) (fun w2 u hu => by obtain ⟨v, rfl, q1⟩ := hu; exact ⟨_, rfl, rfl⟩)) ?_
                refine And.intro (ob_alloc (z := .agg #[.bool false, .slice none 0 0, .slice none 0 0]) rfl rfl (fun _ => by kernel_rfl) (fun _ _ hB h => ⟨_, rfl, hB, h⟩)) ?_
                trivial
              case done76 =>
                refine fun w10 hb10 v0 h0 v1 h1 v2 h2 v3 h3 v4 h4 v5 h5 d5 b hbf => ?_
                obtain rfl := h0; obtain rfl := h4
                clear h1
                clear h2
                have q3 := h3
                obtain ⟨g76_5, rfl, hg5, B5⟩ := h5
                simp only [Act.put, List.setIfInBounds_toArray, List.set_cons_zero, List.set_cons_succ] at hbf
                subst hbf
                replace Bm := Bm.below hb10
                replace kms := kms.below hb10
                replace kmd := kmd.below hb10
                replace kmz := kmz.below hb10
                replace km := km.below hb10
                replace Blo := Blo.below hb10
                replace klos := klos.below hb10
                replace klod := klod.below hb10
                replace kloz := kloz.below hb10
                replace klo := klo.below hb10
                replace hX := hX.below hb10
                replace hS := hS.below hb10
                replace hL := hL.below hb10
                replace bb := bb.trans (hb10.mono bb.size)
                have hsz10 := bb.size
                have BA14 := B5
                obtain ⟨u3, t3, rfl, q3, d3⟩ := q3
                obtain ⟨Ahi, chi, rfl, _⟩ := id q3
                obtain ⟨Dhi, ehi, rfl, _⟩ := id d3
                refine ops_store (i := 6) rfl rfl rfl rfl rfl rfl (cells := [.bool (ngB (HI).num), .slice Ahi (digs 4294967296 (HI).num.natAbs).length chi, .slice Dhi (digs 4294967296 (HI).den).length ehi]) rfl BA14 rfl (by kernel_rfl) (one3 rfl rfl rfl) fun w11 hg11 BN11 => ?_
                replace hX := hX.off BA14 no_ints3 hg11 (fun e => by have e2 : gX_ = g76_5 := Option.some.inj e; omega)
                replace hS := hS.off BA14 no_ints3 hg11 (fun e => by have e2 : gS_ = g76_5 := Option.some.inj e; omega)
                replace hL := hL.off BA14 no_ints3 hg11
                replace q3 := off q3 BA14 no_ints3 hg11
                replace d3 := off d3 BA14 no_ints3 hg11
                replace kms := off kms BA14 no_ints3 hg11
                replace kmd := off kmd BA14 no_ints3 hg11
                replace kmz : IsZ w11 (.agg #[.bool (ngB (MQ).num), .slice Am (digs 4294967296 (MQ).num.natAbs).length cm]) ((MQ).num) := ⟨_, rfl, kms⟩
                replace km : IsQ w11 (.agg #[.bool (ngB (MQ).num), .slice Am (digs 4294967296 (MQ).num.natAbs).length cm, .slice Dm (digs 4294967296 (MQ).den).length em]) (MQ) := ⟨_, _, rfl, kms, kmd⟩
                replace Bm := Bm.grown hg11 (by omega)
                replace klos := off klos BA14 no_ints3 hg11
                replace klod := off klod BA14 no_ints3 hg11
                replace kloz : IsZ w11 (.agg #[.bool (ngB (LO).num), .slice Alo (digs 4294967296 (LO).num.natAbs).length clo]) ((LO).num) := ⟨_, rfl, klos⟩
                replace klo : IsQ w11 (.agg #[.bool (ngB (LO).num), .slice Alo (digs 4294967296 (LO).num.natAbs).length clo, .slice Dlo (digs 4294967296 (LO).den).length elo]) (LO) := ⟨_, _, rfl, klos, klod⟩
                replace Blo := Blo.grown hg11 (by omega)
                replace bb := bb.trans ((Below.refl _ _).grown hg11 bb.size (fun g hg => by injection hg with hg; omega))
                have hsz11 := bb.size
                have Bhi : Blk w11 (g76_5) _ _ := BN11
                have khis := q3
                have khid := d3
                have khiz : IsZ w11 (.agg #[.bool (ngB (HI).num), .slice Ahi (digs 4294967296 (HI).num.natAbs).length chi]) ((HI).num) := ⟨_, rfl, khis⟩
                have khi : IsQ w11 (.agg #[.bool (ngB (HI).num), .slice Ahi (digs 4294967296 (HI).num.natAbs).length chi, .slice Dhi (digs 4294967296 (HI).den).length ehi]) (HI) := ⟨_, _, rfl, khis, khid⟩
                refine ops_assign (i := 7) (.int .i64 0) rfl rfl rfl rfl rfl fun b hbf => ?_
                simp only [Act.put, List.setIfInBounds_toArray, List.set_cons_zero, List.set_cons_succ] at hbf
                subst hbf
                refine ops_done ?_
                go_upto_region 12 with (fail)
                refine flowp 15 [Pd.eq (.slice (some ⟨gS_, oS_, none⟩) (sharesL l).length cS_), Pd.eq (.bool true), Pd.eq (.bool true), Pd.eq (.agg #[.bool (ngB (LO).num), .slice Alo (digs 4294967296 (LO).num.natAbs).length clo, .slice Dlo (digs 4294967296 (LO).den).length elo]), Pd.eq (.agg #[.bool (ngB (MQ).num), .slice Am (digs 4294967296 (MQ).num.natAbs).length cm, .slice Dm (digs 4294967296 (MQ).den).length em]), Pd.eq (.int .i64 (ordq (LO) (MQ))), Pd.eq (.bool true), Pd.eq (.bool true), Pd.eq (.bool true), Pd.eq (.agg #[.bool (ngB (MQ).num), .slice Am (digs 4294967296 (MQ).num.natAbs).length cm, .slice Dm (digs 4294967296 (MQ).den).length em]), Pd.eq (.agg #[.bool (ngB (HI).num), .slice Ahi (digs 4294967296 (HI).num.natAbs).length chi, .slice Dhi (digs 4294967296 (HI).den).length ehi]), Pd.eq (.int .i64 (ordq (MQ) (HI))), Pd.eq (.bool true), Pd.eq (.bool true), Pd.eq (.bool true)] (by kernel_rfl) ?ob77 ?done77
                case ob77 =>
                  refine And.intro (ob_move rfl (wt_none rfl) (ev_far rfl rfl) (fun _ _ h => h)) ?_
                  refine And.intro (ob_call1 rfl Tryz.func17 (by kernel_rfl) (wt_none rfl) (ev_dep (j := 0) (by kernel_rfl) rfl rfl) (fun w2 u0 hb h0 => by obtain rfl := h0; exact (fwhole_any _ (sharesL l) 27 true _ ((show SlF _ _ _ _ _ from hS).below hb) HLS2.out HWB.out).mono fun e w3 h => RetV.pd h)) ?_
                  refine And.intro (ob_move rfl (wt_none rfl) (ev_dep (j := 1) (by kernel_rfl) rfl rfl) (fun _ _ h => h)) ?_
                  refine And.intro (ob_load rfl (wt_dep (c := true) (b := true) (g := 2) rfl (by kernel_rfl) rfl rfl rfl (by exact fun _ _ h => h)) (ev_far rfl rfl) (fun w2 hb => run_loadAll Tryz.underlying28 rfl (by kernel_rfl) (Blo.below hb)) (fun _ _ => rfl)) ?_
                  refine And.intro (ob_load rfl (wt_dep (c := true) (b := true) (g := 2) rfl (by kernel_rfl) rfl rfl rfl (by exact fun _ _ h => h)) (ev_far rfl rfl) (fun w2 hb => run_loadAll Tryz.underlying28 rfl (by kernel_rfl) (Bm.below hb)) (fun _ _ => rfl)) ?_
                  refine And.intro (ob_call2 rfl Tryz.func34 (by kernel_rfl) (wt_dep (c := true) (b := true) (g := 2) rfl (by kernel_rfl) rfl rfl rfl (by exact fun _ _ h => h)) (ev_dep (j := 3) (by kernel_rfl) rfl rfl) (ev_dep (j := 4) (by kernel_rfl) rfl rfl) (fun w2 u0 u1 hb h0 h1 => by obtain rfl := h0; obtain rfl := h1; exact (fcmp_any _ _ (LO) (MQ) (ordq (LO) (MQ)) _ (klo.below hb) (km.below hb) (lLO.mono (by decide)) (lMQ.mono (by decide)) rfl).mono fun e w3 h => RetV.pd h)) ?_
                  refine And.intro (ob_bin rfl (wt_dep (c := true) (b := true) (g := 2) rfl (by kernel_rfl) rfl rfl rfl (by exact fun _ _ h => h)) (ev_dep (j := 5) (by kernel_rfl) rfl rfl) (ev_const _) (fun _ _ _ hx hy => ⟨.bool true, by rw [hx, hy, bin_leq_int, decide_eq_true HLE1.out], rfl⟩)) ?_
                  refine And.intro (ob_pick (b := true) rfl (wt_none rfl) (ev_dep (j := 2) (by kernel_rfl) rfl rfl) (ev_dep (j := 6) (by kernel_rfl) rfl rfl) (fun _ _ h => h)) ?_
                  refine And.intro (ob_move rfl (wt_none rfl) (ev_dep (j := 7) (by kernel_rfl) rfl rfl) (fun _ _ h => h)) ?_
                  refine And.intro (ob_load rfl (wt_dep (c := true) (b := true) (g := 8) rfl (by kernel_rfl) rfl rfl rfl (by exact fun _ _ h => h)) (ev_far rfl rfl) (fun w2 hb => run_loadAll Tryz.underlying28 rfl (by kernel_rfl) (Bm.below hb)) (fun _ _ => rfl)) ?_
                  refine And.intro (ob_load rfl (wt_dep (c := true) (b := true) (g := 8) rfl (by kernel_rfl) rfl rfl rfl (by exact fun _ _ h => h)) (ev_far rfl rfl) (fun w2 hb => run_loadAll Tryz.underlying28 rfl (by kernel_rfl) (Bhi.below hb)) (fun _ _ => rfl)) ?_
                  refine And.intro (ob_call2 rfl Tryz.func34 (by kernel_rfl) (wt_dep (c := true) (b := true) (g := 8) rfl (by kernel_rfl) rfl rfl rfl (by exact fun _ _ h => h)) (ev_dep (j := 9) (by kernel_rfl) rfl rfl) (ev_dep (j := 10) (by kernel_rfl) rfl rfl) (fun w2 u0 u1 hb h0 h1 => by obtain rfl := h0; obtain rfl := h1; exact (fcmp_any _ _ (MQ) (HI) (ordq (MQ) (HI)) _ (km.below hb) (khi.below hb) (lMQ.mono (by decide)) (lHI.mono (by decide)) rfl).mono fun e w3 h => RetV.pd h)) ?_
                  refine And.intro (ob_bin rfl (wt_dep (c := true) (b := true) (g := 8) rfl (by kernel_rfl) rfl rfl rfl (by exact fun _ _ h => h)) (ev_dep (j := 11) (by kernel_rfl) rfl rfl) (ev_const _) (fun _ _ _ hx hy => ⟨.bool true, by rw [hx, hy, bin_leq_int, decide_eq_true HLE2.out], rfl⟩)) ?_
                  refine And.intro (ob_pick (b := true) rfl (wt_none rfl) (ev_dep (j := 8) (by kernel_rfl) rfl rfl) (ev_dep (j := 12) (by kernel_rfl) rfl rfl) (fun _ _ h => h)) ?_
                  refine And.intro (ob_assign rfl (wt_none rfl) (ev_dep (j := 13) (by kernel_rfl) rfl rfl) (fun _ _ h => h)) ?_
                  trivial
                case done77 =>
                  refine fun w12 hb12 v0 h0 v1 h1 v2 h2 v3 h3 v4 h4 v5 h5 v6 h6 v7 h7 v8 h8 v9 h9 v10 h10 v11 h11 v12 h12 v13 h13 v14 h14 b hbf => ?_
                  obtain rfl := h0; obtain rfl := h1; obtain rfl := h2; obtain rfl := h3; obtain rfl := h4; obtain rfl := h5; obtain rfl := h6; obtain rfl := h7; obtain rfl := h8; obtain rfl := h9; obtain rfl := h10; obtain rfl := h11; obtain rfl := h12; obtain rfl := h13; obtain rfl := h14
                  simp only [Act.put, List.setIfInBounds_toArray, List.set_cons_zero, List.set_cons_succ] at hbf
                  subst hbf
                  replace Bm := Bm.below hb12
                  replace kms := kms.below hb12
                  replace kmd := kmd.below hb12
                  replace kmz := kmz.below hb12
                  replace km := km.below hb12
                  replace Blo := Blo.below hb12
                  replace klos := klos.below hb12
                  replace klod := klod.below hb12
                  replace kloz := kloz.below hb12
                  replace klo := klo.below hb12
                  replace Bhi := Bhi.below hb12
                  replace khis := khis.below hb12
                  replace khid := khid.below hb12
                  replace khiz := khiz.below hb12
                  replace khi := khi.below hb12
                  replace hX := hX.below hb12
                  replace hS := hS.below hb12
                  replace hL := hL.below hb12
                  replace bb := bb.trans (hb12.mono bb.size)
                  have hsz12 := bb.size
                  refine ops_done ?_
                  go_wp2
                  go_ret
                  exact ⟨rfl, bb⟩
      · obtain ⟨E, hEd⟩ : ∃ E, E = sharesE l := ⟨_, rfl⟩
        have HE : Hid (sharesE l = E) := hEd.symm
        have hE0 : E ≠ 0 := by rw [hEd]; exact hE
        have HE0 := Lib.hid hE0
        have hEb : (E != 0) = true := by rw [bne_iff_ne]; exact hE0
        have HME : Hid (meanE l y = E) := by
          show _ = _
          unfold meanE
          by_cases h : l = []
          · rw [if_pos h, ← HE.out, h]; rfl
          · rw [if_neg h, if_neg (by rw [HLL.out, HYL.out]; simp), HE.out]
        clear hE hEd hE0
        go_upto_region 6 with (fail)
        refine flowp 7 [Pd.eq (.slice AL l.length cL), psl .u64 4294967296 ([]) E, psl .u64 4294967296 ([]) E, pslv .u64 4294967296 ([]), Pd.eq (.int .i64 E), pslv .u64 4294967296 ([]), Pd.eq (.int .i64 E)] (by kernel_rfl) ?ob78 ?done78
        case ob78 =>
          refine And.intro (ob_move rfl (wt_none rfl) (ev_far rfl rfl) (fun _ _ h => h)) ?_
          refine And.intro (ob_call1 rfl Tryz.func27 (by kernel_rfl) (wt_none rfl) (ev_dep (j := 0) (by kernel_rfl) rfl rfl) (fun w2 u0 hb h0 => by obtain rfl := h0; have h := (fshares_any _ l _ (hL.below hb) (by omega)); rw [HE.out] at h; exact h.mono fun e w3 h => by have h2 := RetQLE.pd h; rw [if_neg HE0.out] at h2; exact h2)) ?_
          refine And.intro (ob_move rfl (wt_none rfl) (ev_dep (j := 1) (by kernel_rfl) rfl rfl) (fun _ _ h => h)) ?_
          refine And.intro (ob_extract rfl (wt_none rfl) (ev_dep (j := 2) (by kernel_rfl) rfl rfl) (fun w2 u hu => by obtain ⟨V, rfl, h1⟩ := hu; exact ⟨V, rfl, h1⟩)) ?_
          refine And.intro (ob_extract rfl (wt_none rfl) (ev_dep (j := 2) (by kernel_rfl) rfl rfl) (fun w2 u hu => by obtain ⟨V, rfl, h1⟩ := hu; exact ⟨_, rfl, rfl⟩)) ?_
          refine And.intro (ob_assign rfl (wt_none rfl) (ev_dep (j := 3) (by kernel_rfl) rfl rfl) (fun _ _ h => h)) ?_
          refine And.intro (ob_assign rfl (wt_none rfl) (ev_dep (j := 4) (by kernel_rfl) rfl rfl) (fun _ _ h => h)) ?_
          trivial
        case done78 =>
          refine fun w5 hb5 v0 h0 v1 h1 v2 h2 v3 h3 v4 h4 v5 h5 v6 h6 b hbf => ?_
          obtain rfl := h0; obtain rfl := h4; obtain rfl := h6
          clear h1
          clear h2
          have q3 := h3
          have q5 := h5
          simp only [Act.put, List.setIfInBounds_toArray, List.set_cons_zero, List.set_cons_succ] at hbf
          subst hbf
          replace hL := hL.below hb5
          replace hX := hX.below hb5
          replace bb := bb.trans (hb5.mono bb.size)
          have hsz5 := bb.size
          refine ops_done ?_
          go_upto_region 7 with (fail)
          refine flowp 7 [Pd.eq (.slice AL l.length cL), Pd.eq (.slice AV n cV), Pd.eq (.tuple #[.agg #[.bool false, .slice none 0 0, .slice none 0 0], .int .i64 E]), Pd.eq (.tuple #[.agg #[.bool false, .slice none 0 0, .slice none 0 0], .int .i64 E]), Pd.eq (.agg #[.bool false, .slice none 0 0, .slice none 0 0]), Pd.eq (.int .i64 E), pn 28 #[.bool false, .slice none 0 0, .slice none 0 0] w5.heap.size] (by kernel_rfl) ?ob79 ?done79
          case ob79 =>
            refine And.intro (ob_move rfl (wt_none rfl) (ev_far rfl rfl) (fun _ _ h => h)) ?_
            refine And.intro (ob_move rfl (wt_none rfl) (ev_far rfl rfl) (fun _ _ h => h)) ?_
            refine And.intro (ob_call2 rfl Tryz.func29 (by kernel_rfl) (wt_none rfl) (ev_dep (j := 0) (by kernel_rfl) rfl rfl) (ev_dep (j := 1) (by kernel_rfl) rfl rfl) (fun w2 u0 u1 hb h0 h1 => by obtain rfl := h0; obtain rfl := h1; exact (fmean_no _ _ l y _ _ (hL.below hb) (hX.below hb) HME.out HE0.out ⟨hl8, hlen2, HLY.out⟩).mono fun e w3 h => RetQN.pd h)) ?_
            refine And.intro (ob_move rfl (wt_none rfl) (ev_dep (j := 2) (by kernel_rfl) rfl rfl) (fun _ _ h => h)) ?_
            refine And.intro (ob_extract rfl (wt_none rfl) (ev_dep (j := 3) (by kernel_rfl) rfl rfl) (fun w2 u hu => by obtain rfl := hu; exact ⟨_, rfl, rfl⟩)) ?_
            refine And.intro (ob_extract rfl (wt_none rfl) (ev_dep (j := 3) (by kernel_rfl) rfl rfl) (fun w2 u hu => by obtain rfl := hu; exact ⟨_, rfl, rfl⟩)) ?_
            refine And.intro (ob_alloc (z := .agg #[.bool false, .slice none 0 0, .slice none 0 0]) rfl rfl (fun _ => by kernel_rfl) (fun _ _ hB h => ⟨_, rfl, hB, h⟩)) ?_
            trivial
          case done79 =>
            refine fun w6 hb6 v0 h0 v1 h1 v2 h2 v3 h3 v4 h4 v5 h5 v6 h6 d6 b hbf => ?_
            obtain rfl := h0; obtain rfl := h1; obtain rfl := h2; obtain rfl := h3; obtain rfl := h4; obtain rfl := h5
            obtain ⟨g79_6, rfl, hg6, B6⟩ := h6
            simp only [Act.put, List.setIfInBounds_toArray, List.set_cons_zero, List.set_cons_succ] at hbf
            subst hbf
            replace hL := hL.below hb6
            replace hX := hX.below hb6
            replace bb := bb.trans (hb6.mono bb.size)
            have hsz6 := bb.size
            have BA10 := B6
            refine ops_store (i := 7) rfl rfl rfl rfl rfl rfl (cells := [.bool false, .slice none 0 0, .slice none 0 0]) rfl BA10 rfl (by kernel_rfl) (one3 rfl rfl rfl) fun w7 hg7 BN7 => ?_
            replace bb := bb.trans ((Below.refl _ _).grown hg7 bb.size (fun g hg => by injection hg with hg; omega))
            have hsz7 := bb.size
            replace BA10 : Blk w7 (g79_6) _ #[.bool false, .slice none 0 0, .slice none 0 0] := BN7
            refine ops_assign (i := 8) (.int .i64 E) rfl rfl rfl rfl rfl fun b hbf => ?_
            simp only [Act.put, List.setIfInBounds_toArray, List.set_cons_zero, List.set_cons_succ] at hbf
            subst hbf
            refine ops_done ?_
            go_wp2
            go_ret
            exact ⟨rfl, bb⟩
set_option maxRecDepth 100000 in
theorem lifted (os : Os) (started : os.Started) (H : Type) (enc : TypeId × Value → H) :
    ReturnsInHanded {} Tryz.checked os 7 .any (Rows.foldBetweenSpec.pre6 enc Tryz.prog Tryz.f7 Rows.foldBetweenRow.domain false) (Rows.foldBetweenSpec.post enc Tryz.prog Tryz.f7 false true false false) := by
  refine returnsInHanded_of_change (C := Tryz.checked) own started (by kernel_rfl) Tryz.func7
    (ChangeSpec.witness6 (enc := enc) (C := Tryz.checked) false ⟨#[], #[.slice none 0 0, .slice none 0 0], []⟩ 8 (by kernel_rfl) (by kernel_rfl) (by kernel_rfl) (by kernel_rfl)) ?_
  intro W base args ds gs before hval0 hW hcnd _
  have hval : ∀ (j : Nat) t v, Tryz.f7.params[j]? = some t → args[j]? = some v → Value.okWide Tryz.prog W .any base t v := hval0
  have hW' := hW
  obtain ⟨p, q, hA0, hV, rfl, hfz, hnd⟩ := hW
  have hA : DataW.TrodAll enc Tryz.prog W 0 (fun _ => true) true Tryz.f7.params.toList args.toList ds p := hA0
  rw [Tryz.params7] at hA hval
  obtain ⟨v0, vs0, d0, ds0, p0, q0, hargs, rfl, rfl, t0, r0⟩ := trodAll_cons hA
  obtain ⟨v1, vs1, d1, ds1, p1, q1, rfl, rfl, rfl, t1, r1⟩ := trodAll_cons r0
  obtain ⟨rfl, rfl, rfl⟩ := trodAll_nil r1
  obtain rfl : args = #[v0, v1] := by cases args; simp_all
  obtain ⟨rfl, rfl⟩ := trodVars_none hV
  obtain ⟨l0, hs0⟩ := arg_is Tryz.underlying36 Tryz.underlying3 (by kernel_rfl) (hval 0 36 v0 rfl rfl) t0
  have hs1 := arg_qs Tryz.underlying22 Tryz.underlying28 (by kernel_rfl) (by kernel_rfl) Tryz.underlying26 (by kernel_rfl) Tryz.underlying4 Tryz.underlying24 Tryz.underlying24 Tryz.underlying71 cells_u (hval 1 22 v1 rfl rfl) t1
  clear hA0 hval0
  simp only [List.append_nil] at hW'
  have hlt0 : ∀ x ∈ p0, x.block < W.heap.size := fun x hx => hW'.lt x (List.mem_append_left _ hx)
  have hlt1 : ∀ x ∈ p1, x.block < W.heap.size := fun x hx => hW'.lt x (List.mem_append_right _ (hx))
  refine (walk v0 l0 v1 W hs0 hs1).mono fun e W' ⟨he, hb⟩ => ?_
  subst he
  have s0 := Below.trod laidOut (by kernel_rfl) (of_decide_eq_true (by kernel_rfl)) t0 hb hlt0
  have s1 := Below.trod laidOut (by kernel_rfl) (of_decide_eq_true (by kernel_rfl)) t1 hb hlt1
  exact ⟨_, rfl, _, _, _, [] ++ [], _, [], hW', trodAll_cons_mk (shut_bool Tryz.underlying4 _) trodAll_mk0, trodAll_cons_mk s0 (trodAll_cons_mk s1 (trodAll_mk0)), rfl, hb.frame _, fun h => by cases h⟩
theorem over : Rows.foldBetweenRow.holds Tryz.pinned (OpenSpec.ofChange Rows.foldBetweenSpec) :=
  OpenClaim.holds_of_wide 7 Tryz.f7 rfl rfl rfl rfl rfl rfl rfl ⟨rfl, rfl, rfl, rfl, rfl⟩ rfl rfl rfl rfl rfl (by kernel_rfl) Tryz.func7 (by kernel_rfl)
    (of_decide_eq_true (by kernel_rfl)) (by unfold Func.isWrapper; first | (rw [if_pos (by decide +kernel)]; kernel_rfl) | (rw [if_neg (by decide +kernel)]; exact ⟨rfl, rfl⟩))
    (fun os started H enc _ => lifted os started H enc)
/-- The statement. -/
theorem proved : Rows.FoldBetweenSaid := over
end Go.Proofs.YtlnmoledijlemaaGreat.foldBetween
