/- MatrixChecks: what may be a table, its size, what is the same, the table that changes nothing. Condition: the arguments can be read as data. -/
import Derived.Test.YtekpnbgchoccmaaGreatKA5
import Derived.Deep.Cut
import Derived.OpenShut
import Derived.LaidMore
import Derived.Lay
import Derived.Stop.Joined
namespace Go.Proofs.YtekpnbgchoccmaaGreat.matrixChecks
open Go.ChangeShapes Go.WideShapes Go.ChangeAt Go.RowKit Go.Proofs.YtekpnbgchoccmaaGreat.num Go.Proofs.YtekpnbgchoccmaaGreat.mem Go.Proofs.YtekpnbgchoccmaaGreat.nat Go.Proofs.YtekpnbgchoccmaaGreat.txt Go.Proofs.YtekpnbgchoccmaaGreat.str Go.Proofs.YtekpnbgchoccmaaGreat.flow Go.Proofs.YtekpnbgchoccmaaGreat.whl Go.Proofs.YtekpnbgchoccmaaGreat.rat
set_option linter.unusedVariables false
theorem own : ownKnob Tryz.prog.godebug = none := by kernel_rfl
theorem laidOut : laidOutB Tryz.prog = true := by kernel_rfl
theorem cells_u : Tryz.prog.cellsOf 76 = 1 := by kernel_rfl
set_option maxHeartbeats 6400000 in
set_option maxRecDepth 100000 in
/-- The walk: the Go text returns true; what was there is as it was. -/
theorem walk (v0 : Value) (v1 : Value) (a2 : Int) (w : World) (h0 : ArgT w v0) (h1 : ArgT w v1) (wf2 : (Lit.int .i64 a2).wf = true) :
    Calls Tryz.prog 3 #[v0, v1, .int .i64 a2] w (RetV (.bool true) w) := by
  obtain ⟨A0, n0, c0, rfl, _, _⟩ := h0.shape
  obtain ⟨A1, n1, c1, rfl, _, _⟩ := h1.shape
  go_enter Tryz.func3, Tryz.ntmps3
  go_wp2_with fail
  refine (fewt_any _ 6 _ h0 (by omega)).mono ?_
  rintro e w1 ⟨V, U, p, rfl, hV, hU, hpl, hpr, hpx, b1⟩
  obtain ⟨AV, cV, rfl, _, _⟩ := hV.shape
  obtain ⟨AU, cU, rfl, _, _⟩ := hU.shape
  have hA1 := h1.below b1
  go_wp2_with fail
  refine (fewt_any _ 6 _ hA1 (by omega)).mono ?_
  rintro e w2 ⟨W, X, q, rfl, hW, hX, hql, hqr, hqx, b2⟩
  obtain ⟨AW, cW, rfl, _, _⟩ := hW.shape
  obtain ⟨AX, cX, rfl, _, _⟩ := hX.shape
  have bb2 := b1.trans (b2.mono b1.size)
  have hV2 := hV.below b2
  have hU2 := hU.below b2
  have HPX := Lib.hid hpx
  have HQX := Lib.hid hqx
  have HPR := Lib.hid hpr
  have HPL := Lib.hid hpl
  have HQL := Lib.hid hql
  clear hV hU b1 b2 hA1 hpx hqx hpr hqr hpl hql
  go_wp2_with fail
  refine (msize_any _ p _ hV2).mono ?_
  rintro e w3 ⟨rfl, b3⟩
  have hV3 := hV2.below b3
  have hU3 := hU2.below b3
  have hW3 := hW.below b3
  have hX3 := hX.below b3
  have bb3 := bb2.trans (b3.mono bb2.size)
  clear hV2 hU2 hW hX b3 bb2
  obtain ⟨I, N, hI⟩ : ∃ I : List (List Rat), ∃ N : Int, ((a2 < 0 ∨ 200 < a2) ∧ N = 2 ∧ I = []) ∨ (∃ d : Nat, a2 = (d : Int) ∧ d ≤ 200 ∧ N = 0 ∧ I = identq d) := by
    by_cases h : a2 < 0 ∨ 200 < a2
    · exact ⟨[], 2, .inl ⟨h, rfl, rfl⟩⟩
    · exact ⟨identq a2.toNat, 0, .inr ⟨a2.toNat, by omega, by omega, rfl, rfl⟩⟩
  have HI := Lib.hid hI
  have CI : Calls Tryz.prog 9 #[.int .i64 a2] w3 (RetTE I N w3) := by
    rcases hI with ⟨h, rfl, rfl⟩ | ⟨d, h, hd, rfl, rfl⟩
    · exact mident_no _ _ h
    · exact mident_ok _ d _ h hd
  clear hI
  go_wp2_with fail
  refine CI.mono ?_
  rintro e w4 ⟨VI, rfl, SI, b4⟩
  have SI2 : SlT .u64 4294967296 w4 VI I := by
    rcases HI.out with ⟨_, hN, rfl⟩ | ⟨d, _, _, rfl, _⟩
    · rw [hN, if_neg (by decide)] at SI; exact SI
    · rw [if_pos rfl] at SI; exact SI
  obtain ⟨AI, cI, rfl, _, _⟩ := SI2.shape
  have hV4 := hV3.below b4
  have hU4 := hU3.below b4
  have hW4 := hW3.below b4
  have hX4 := hX3.below b4
  have bb4 := bb3.trans (b4.mono bb3.size)
  clear hV3 hU3 hW3 hX3 b4 bb3 CI SI
  have HPW : Hid (wideq p ≤ 6) := by
    show _ ≤ _
    by_cases hn : p = []
    · rw [hn]; exact Nat.zero_le _
    · obtain ⟨r, hr⟩ : ∃ r, p[0]? = some r := ⟨_, List.getElem?_eq_getElem (List.length_pos_iff.2 hn)⟩
      rw [wideq_at hr]; exact HPR.out r (List.mem_of_getElem? hr)
  obtain ⟨E, hE⟩ : ∃ E, E = decide (evenq p) := ⟨_, rfl⟩
  obtain ⟨C, hC⟩ : ∃ C : Int, C = if mayq p then 0 else 8 := ⟨_, rfl⟩
  have hCE : (C == 0) = E := by
    rw [hC, hE]
    by_cases h : evenq p
    · rw [if_pos (show mayq p from ⟨by have := HPL.out; omega, by have := HPW.out; omega, h⟩), decide_eq_true h]; rfl
    · rw [if_neg (fun k => h k.2.2), decide_eq_false h]; rfl
  obtain ⟨S, hS⟩ : ∃ S, S = decide (p = q) := ⟨_, rfl⟩
  obtain ⟨J, hJ⟩ : ∃ J : Int, J = if p = q then 1 else 0 := ⟨_, rfl⟩
  have hJS : (J == 1) = S := by
    rw [hJ, hS]
    by_cases h : p = q
    · rw [if_pos h, decide_eq_true h]; rfl
    · rw [if_neg h, decide_eq_false h]; rfl
  have HE := Lib.hid hE
  have HC := Lib.hid hC
  have HS := Lib.hid hS
  have HJ := Lib.hid hJ
  clear hE hC hS hJ
  go_wp2_with fail
  refine (mcheck_any _ p C _ hV4 HC.out).mono ?_
  rintro e w5 ⟨rfl, b5⟩
  have hU5 := hU4.below b5
  go_wp2_with fail
  refine (evn_any _ p E _ hU5 HE.out).mono ?_
  rintro e w6 ⟨rfl, b6⟩
  have b46 := b5.trans (b6.mono b5.size)
  have hU6 := hU4.below b46
  clear b5 b6 hU5
  go_wp2_with fail
  refine (rwide_any _ p _ hU6).mono ?_
  rintro e w7 ⟨rfl, b7⟩
  have b47 := b46.trans (b7.mono b46.size)
  have hV7 := hV4.below b47
  have hW7 := hW4.below b47
  clear b46 b7 hU6
  go_wp2_with fail
  refine (msame_any _ _ p q S _ hV7 hW7 HS.out).mono ?_
  rintro e w8 ⟨rfl, b8⟩
  have b48 := b47.trans (b8.mono b47.size)
  have hV8 := hV4.below b48
  have hX8 := hX4.below b48
  clear b47 b8 hV7 hW7
  go_wp2_with fail
  refine (ist_any _ _ p q J _ hV8 hX8 (HQX.out.mono (by decide)) HJ.out).mono ?_
  rintro e w9 ⟨rfl, b9⟩
  have b49 := b48.trans (b9.mono b48.size)
  have hW9 := hW4.below b49
  clear b48 b9 hV8 hX8
  go_wp2_with fail
  refine (msame_any _ _ q q true _ hW9 hW9 (decide_eq_true rfl).symm).mono ?_
  rintro e w10 ⟨rfl, b10⟩
  have b410 := b49.trans (b10.mono b49.size)
  have bb10 := bb4.trans (b410.mono bb4.size)
  have SI10 := SI2.below b410
  clear b49 b10 hW9 SI2 hV4 hU4 hW4 hX4 b410 bb4 hCE hJS
  rcases HI.out with ⟨hn, hN, hIe⟩ | ⟨d, hn, hd, hN, hIe⟩
  · subst hN
    subst hIe
    by_cases hlo : a2 < 0
    · have hlo' : decide (a2 < 0) = true := decide_eq_true hlo
      clear hn
      go_wp2_with fail
      refine (works12_any _).mono ?_
      rintro e w11 ⟨rfl, b11⟩
      have bb11 := bb10.trans (b11.mono bb10.size)
      go_wp2
      go_ret
      exact ⟨rfl, bb11⟩
    · have hhi : 200 < a2 := by rcases hn with hn | hn <;> omega
      clear hn
      go_wp2_with fail
      refine (works12_any _).mono ?_
      rintro e w11 ⟨rfl, b11⟩
      have bb11 := bb10.trans (b11.mono bb10.size)
      go_wp2
      go_ret
      exact ⟨rfl, bb11⟩
  · subst hN
    subst hn
    have hlo : ¬ (d : Int) < 0 := by omega
    have hhi : ¬ (200 : Int) < (d : Int) := by omega
    have HIE := Lib.hid hIe
    clear hIe
    have hIL : I.length = d := by rw [HIE.out, identq_len]
    have HILb : Hid ((((I.length : Nat) : Int) == (d : Int)) = true) := by show _ = _; rw [beq_iff_eq, hIL]
    have HRL : ∀ k, (unitq d k).length = d := unitq_len d
    have HNE : 1 ≤ d → I ≠ [] := fun h => List.length_pos_iff.1 (by rw [hIL]; exact h)
    have HIA : ∀ k, k < d → I[k]? = some (unitq d k) := fun k hk => by rw [HIE.out]; exact identq_at hk
    have HIAH := Lib.hid HIA
    have HRLH := Lib.hid HRL
    have HNEH := Lib.hid HNE
    clear hIL HIA HRL HNE
    go_wp2_with fail
    · refine (among_any _ 1 1 _ rfl (by omega)).mono ?_
      rintro e w11 ⟨k, rfl, hkd, b11⟩
      have bb11 := bb10.trans (b11.mono bb10.size)
      have SI11 := SI10.below b11
      clear b11 SI10
      have bb := bb11
      by_cases hd0 : d = 0
      · have HD0 : Hid (((d : Int) == 0) = true) := by show _ = _; rw [beq_iff_eq]; omega
        clear hd0
        go_upto_region 10 with (fail)
        refine flowp 44 [Pd.eq (.int .i64 0), Pd.eq (.bool true), Pd.eq (.bool true), Pd.eq (.slice AI I.length cI), Pd.eq (.int .i64 ((I.length : Nat) : Int)), Pd.eq (.int .i64 (d : Int)), Pd.eq (.bool true), Pd.eq (.bool true), Pd.eq (.bool true), Pd.eq (.int .i64 (d : Int)), Pd.eq (.bool true), Pd.eq (.bool true), Pd.any, Pd.any, Pd.any, Pd.any, Pd.any, Pd.any, Pd.any, Pd.eq (undef), Pd.any, Pd.any, Pd.any, Pd.any, Pd.any, Pd.any, Pd.any, Pd.any, Pd.eq (undef), Pd.any, Pd.any, Pd.any, Pd.any, Pd.any, Pd.any, Pd.any, Pd.any, Pd.any, Pd.eq (.bool true), Pd.eq (.bool true), Pd.eq (.bool true), Pd.eq (.bool true), Pd.eq (.bool true), Pd.eq (.bool true)] (by kernel_rfl) ?ob1 ?done1
        case ob1 =>
          refine And.intro (ob_move rfl (wt_none rfl) (ev_far rfl rfl) (fun _ _ h => h)) ?_
          refine And.intro (ob_bin rfl (wt_none rfl) (ev_dep (j := 0) (by kernel_rfl) rfl rfl) (ev_const _) (fun _ _ _ hx hy => ⟨.bool ((0 : Int) == 0), by rw [hx, hy]; exact bin_eql_int _ _ _ _ _, congrArg Value.bool (by decide)⟩)) ?_
          refine And.intro (ob_move rfl (wt_none rfl) (ev_dep (j := 1) (by kernel_rfl) rfl rfl) (fun _ _ h => h)) ?_
          refine And.intro (ob_move rfl (wt_dep (c := true) (b := true) (g := 2) rfl (by kernel_rfl) rfl rfl rfl (by exact fun _ _ h => h)) (ev_far rfl rfl) (fun _ _ h => h)) ?_
          refine And.intro (ob_len rfl (wt_dep (c := true) (b := true) (g := 2) rfl (by kernel_rfl) rfl rfl rfl (by exact fun _ _ h => h)) (ev_dep (j := 3) (by kernel_rfl) rfl rfl) (fun _ _ hx => ⟨_, by rw [hx]; exact len_slice Tryz.underlying22 _ _ _ _, rfl⟩)) ?_
          refine And.intro (ob_move rfl (wt_dep (c := true) (b := true) (g := 2) rfl (by kernel_rfl) rfl rfl rfl (by exact fun _ _ h => h)) (ev_far rfl rfl) (fun _ _ h => h)) ?_
          refine And.intro (ob_bin rfl (wt_dep (c := true) (b := true) (g := 2) rfl (by kernel_rfl) rfl rfl rfl (by exact fun _ _ h => h)) (ev_dep (j := 4) (by kernel_rfl) rfl rfl) (ev_dep (j := 5) (by kernel_rfl) rfl rfl) (fun _ _ _ hx hy => ⟨.bool true, by rw [hx, hy, bin_eql_int, HILb.out], rfl⟩)) ?_
          refine And.intro (ob_pick (b := true) rfl (wt_none rfl) (ev_dep (j := 2) (by kernel_rfl) rfl rfl) (ev_dep (j := 6) (by kernel_rfl) rfl rfl) (fun _ _ h => h)) ?_
          refine And.intro (ob_move rfl (wt_none rfl) (ev_dep (j := 7) (by kernel_rfl) rfl rfl) (fun _ _ h => h)) ?_
          refine And.intro (ob_move rfl (wt_dep (c := true) (b := true) (g := 8) rfl (by kernel_rfl) rfl rfl rfl (by exact fun _ _ h => h)) (ev_far rfl rfl) (fun _ _ h => h)) ?_
          refine And.intro (ob_bin rfl (wt_dep (c := true) (b := true) (g := 8) rfl (by kernel_rfl) rfl rfl rfl (by exact fun _ _ h => h)) (ev_dep (j := 9) (by kernel_rfl) rfl rfl) (ev_const _) (fun _ _ _ hx hy => ⟨.bool true, by rw [hx, hy, bin_eql_int, HD0.out], rfl⟩)) ?_
          refine And.intro (ob_move rfl (wt_dep (c := true) (b := true) (g := 8) rfl (by kernel_rfl) rfl rfl rfl (by exact fun _ _ h => h)) (ev_dep (j := 10) (by kernel_rfl) rfl rfl) (fun _ _ h => h)) ?_
          refine And.intro (ob_not (wt_dep (c := true) (b := false) (g := 11) rfl (by kernel_rfl) rfl rfl rfl (by exact fun _ _ h => h)) (fun _ => trivial) rfl) ?_
          refine And.intro (ob_not (wt_dep (c := true) (b := false) (g := 11) rfl (by kernel_rfl) rfl rfl rfl (by exact fun _ _ h => h)) (fun _ => trivial) rfl) ?_
          refine And.intro (ob_not (wt_dep (c := true) (b := false) (g := 11) rfl (by kernel_rfl) rfl rfl rfl (by exact fun _ _ h => h)) (fun _ => trivial) rfl) ?_
          refine And.intro (ob_not (wt_dep (c := true) (b := false) (g := 11) rfl (by kernel_rfl) rfl rfl rfl (by exact fun _ _ h => h)) (fun _ => trivial) rfl) ?_
          refine And.intro (ob_not (wt_dep (c := true) (b := false) (g := 11) rfl (by kernel_rfl) rfl rfl rfl (by exact fun _ _ h => h)) (fun _ => trivial) rfl) ?_
          refine And.intro (ob_not (wt_dep (c := true) (b := false) (g := 11) rfl (by kernel_rfl) rfl rfl rfl (by exact fun _ _ h => h)) (fun _ => trivial) rfl) ?_
          refine And.intro (ob_not (wt_dep (c := true) (b := false) (g := 11) rfl (by kernel_rfl) rfl rfl rfl (by exact fun _ _ h => h)) (fun _ => trivial) rfl) ?_
          refine And.intro (ob_not (wt_dep (c := true) (b := false) (g := 11) rfl (by kernel_rfl) rfl rfl rfl (by exact fun _ _ h => h)) (fun _ => rfl) rfl) ?_
          refine And.intro (ob_not (wt_undef (b := true) (g := 19) rfl (by kernel_rfl) rfl rfl rfl (by exact fun _ _ h => h)) (fun _ => trivial) rfl) ?_
          refine And.intro (ob_not (wt_undef (b := true) (g := 19) rfl (by kernel_rfl) rfl rfl rfl (by exact fun _ _ h => h)) (fun _ => trivial) rfl) ?_
          refine And.intro (ob_not (wt_undef (b := true) (g := 19) rfl (by kernel_rfl) rfl rfl rfl (by exact fun _ _ h => h)) (fun _ => trivial) rfl) ?_
          refine And.intro (ob_not (wt_undef (b := true) (g := 19) rfl (by kernel_rfl) rfl rfl rfl (by exact fun _ _ h => h)) (fun _ => trivial) rfl) ?_
          refine And.intro (ob_not (wt_undef (b := true) (g := 19) rfl (by kernel_rfl) rfl rfl rfl (by exact fun _ _ h => h)) (fun _ => trivial) rfl) ?_
          refine And.intro (ob_not (wt_undef (b := true) (g := 19) rfl (by kernel_rfl) rfl rfl rfl (by exact fun _ _ h => h)) (fun _ => trivial) rfl) ?_
          refine And.intro (ob_not (wt_undef (b := true) (g := 19) rfl (by kernel_rfl) rfl rfl rfl (by exact fun _ _ h => h)) (fun _ => trivial) rfl) ?_
          refine And.intro (ob_not (wt_dep (c := true) (b := false) (g := 11) rfl (by kernel_rfl) rfl rfl rfl (by exact fun _ _ h => h)) (fun _ => trivial) rfl) ?_
          refine And.intro (ob_not (wt_dep (c := true) (b := false) (g := 11) rfl (by kernel_rfl) rfl rfl rfl (by exact fun _ _ h => h)) (fun _ => rfl) rfl) ?_
          refine And.intro (ob_not (wt_undef (b := true) (g := 28) rfl (by kernel_rfl) rfl rfl rfl (by exact fun _ _ h => h)) (fun _ => trivial) rfl) ?_
          refine And.intro (ob_not (wt_undef (b := true) (g := 28) rfl (by kernel_rfl) rfl rfl rfl (by exact fun _ _ h => h)) (fun _ => trivial) rfl) ?_
          refine And.intro (ob_not (wt_undef (b := true) (g := 28) rfl (by kernel_rfl) rfl rfl rfl (by exact fun _ _ h => h)) (fun _ => trivial) rfl) ?_
          refine And.intro (ob_not (wt_undef (b := true) (g := 28) rfl (by kernel_rfl) rfl rfl rfl (by exact fun _ _ h => h)) (fun _ => trivial) rfl) ?_
          refine And.intro (ob_not (wt_undef (b := true) (g := 28) rfl (by kernel_rfl) rfl rfl rfl (by exact fun _ _ h => h)) (fun _ => trivial) rfl) ?_
          refine And.intro (ob_not (wt_undef (b := true) (g := 28) rfl (by kernel_rfl) rfl rfl rfl (by exact fun _ _ h => h)) (fun _ => trivial) rfl) ?_
          refine And.intro (ob_not (wt_undef (b := true) (g := 28) rfl (by kernel_rfl) rfl rfl rfl (by exact fun _ _ h => h)) (fun _ => trivial) rfl) ?_
          refine And.intro (ob_not (wt_undef (b := true) (g := 28) rfl (by kernel_rfl) rfl rfl rfl (by exact fun _ _ h => h)) (fun _ => trivial) rfl) ?_
          refine And.intro (ob_not (wt_dep (c := true) (b := false) (g := 11) rfl (by kernel_rfl) rfl rfl rfl (by exact fun _ _ h => h)) (fun _ => trivial) rfl) ?_
          refine And.intro (ob_pick (b := true) rfl (wt_dep (c := true) (b := true) (g := 8) rfl (by kernel_rfl) rfl rfl rfl (by exact fun _ _ h => h)) (ev_dep (j := 11) (by kernel_rfl) rfl rfl) (ev_const _) (fun _ _ h => h)) ?_
          refine And.intro (ob_pick (b := true) rfl (wt_none rfl) (ev_dep (j := 8) (by kernel_rfl) rfl rfl) (ev_dep (j := 38) (by kernel_rfl) rfl rfl) (fun _ _ h => h)) ?_
          refine And.intro (ob_move rfl (wt_none rfl) (ev_dep (j := 39) (by kernel_rfl) rfl rfl) (fun _ _ h => h)) ?_
          refine And.intro (ob_call0 rfl Tryz.func15 (by kernel_rfl) (wt_dep (c := true) (b := true) (g := 40) rfl (by kernel_rfl) rfl rfl rfl (by exact fun _ _ h => h)) (fun w2 hb => (works12_any _).mono fun e w3 h => RetV.pd h)) ?_
          refine And.intro (ob_pick (b := true) rfl (wt_none rfl) (ev_dep (j := 40) (by kernel_rfl) rfl rfl) (ev_dep (j := 41) (by kernel_rfl) rfl rfl) (fun _ _ h => h)) ?_
          refine And.intro (ob_assign rfl (wt_none rfl) (ev_dep (j := 42) (by kernel_rfl) rfl rfl) (fun _ _ h => h)) ?_
          trivial
        case done1 =>
          refine fun w41 hb41 v0 h0 v1 h1 v2 h2 v3 h3 v4 h4 v5 h5 v6 h6 v7 h7 v8 h8 v9 h9 v10 h10 v11 h11 v12 h12 v13 h13 v14 h14 v15 h15 v16 h16 v17 h17 v18 h18 v19 h19 v20 h20 v21 h21 v22 h22 v23 h23 v24 h24 v25 h25 v26 h26 v27 h27 v28 h28 v29 h29 v30 h30 v31 h31 v32 h32 v33 h33 v34 h34 v35 h35 v36 h36 v37 h37 v38 h38 v39 h39 v40 h40 v41 h41 v42 h42 v43 h43 b hbf => ?_
          obtain rfl := h0; obtain rfl := h1; obtain rfl := h2; obtain rfl := h3; obtain rfl := h4; obtain rfl := h5; obtain rfl := h6; obtain rfl := h7; obtain rfl := h8; obtain rfl := h9; obtain rfl := h10; obtain rfl := h11; obtain rfl := h19; obtain rfl := h28; obtain rfl := h38; obtain rfl := h39; obtain rfl := h40; obtain rfl := h41; obtain rfl := h42; obtain rfl := h43
          clear h12
          clear h13
          clear h14
          clear h15
          clear h16
          clear h17
          clear h18
          clear h20
          clear h21
          clear h22
          clear h23
          clear h24
          clear h25
          clear h26
          clear h27
          clear h29
          clear h30
          clear h31
          clear h32
          clear h33
          clear h34
          clear h35
          clear h36
          clear h37
          simp only [Act.put, List.setIfInBounds_toArray, List.set_cons_zero, List.set_cons_succ] at hbf
          subst hbf
          replace bb := bb.trans (hb41.mono bb.size)
          have hsz41 := bb.size
          refine ops_done ?_
          go_wp2
          go_ret
          exact ⟨rfl, bb⟩
      · have HD0 : Hid (((d : Int) == 0) = false) := by show _ = _; rw [beq_eq_false_iff_ne]; omega
        have hkd' : k < d := by omega
        obtain ⟨adI, rfl⟩ := SI11.place (HNEH.out (by omega))
        obtain ⟨AR, cR, hki, ecR, sR⟩ := SI11.at2 (HIAH.out k hkd')
        have HRb : Hid (((((unitq d k).length : Nat) : Int) == (d : Int)) = true) := by show _ = _; rw [HRLH.out k]; exact beq_self_eq_true _
        have HLD : Hid (((k : Nat) : Int) = ((leadq (unitq d k) : Nat) : Int)) := by show _ = _; rw [leadq_unit hkd']
        obtain ⟨gy, oy, uy, ty, hAy, hkl, y0, y1, y2, ys, yd⟩ := sR.at_ (unitq_at hkd')
        subst hAy
        obtain ⟨Ay, cy, rfl, _⟩ := id ys
        obtain ⟨Dy, ey, rfl, _⟩ := id yd
        have zy : IsQ w11 (.agg #[.bool (ngB (1 : Rat).num), .slice Ay (digs 4294967296 (1 : Rat).num.natAbs).length cy, .slice Dy (digs 4294967296 (1 : Rat).den).length ey]) 1 := ⟨_, _, rfl, ys, yd⟩
        have HO1 : Hid (true = decide ((1 : Rat) = ((1 : Int) : Rat))) := by show _ = _; decide +kernel
        go_upto_region 10 with (fail)
        refine flowp 44 [Pd.eq (.int .i64 0), Pd.eq (.bool true), Pd.eq (.bool true), Pd.eq (.slice (some adI) I.length cI), Pd.eq (.int .i64 ((I.length : Nat) : Int)), Pd.eq (.int .i64 (d : Int)), Pd.eq (.bool true), Pd.eq (.bool true), Pd.eq (.bool true), Pd.eq (.int .i64 (d : Int)), Pd.eq (.bool false), Pd.eq (.bool false), Pd.eq (.slice (some adI) I.length cI), Pd.eq (.int .i64 (k : Int)), Pd.eq (.pointer (some (adI.add k))), Pd.eq (.slice (some ⟨gy, oy, none⟩) (unitq d k).length cR), Pd.eq (.int .i64 (k : Int)), Pd.eq (.int .i64 (k : Int)), Pd.eq (.bool true), Pd.eq (.bool true), Pd.eq (.slice (some adI) I.length cI), Pd.eq (.int .i64 (k : Int)), Pd.eq (.pointer (some (adI.add k))), Pd.eq (.slice (some ⟨gy, oy, none⟩) (unitq d k).length cR), Pd.eq (.int .i64 (((unitq d k).length : Nat) : Int)), Pd.eq (.int .i64 (d : Int)), Pd.eq (.bool true), Pd.eq (.bool true), Pd.eq (.bool true), Pd.eq (.slice (some adI) I.length cI), Pd.eq (.int .i64 (k : Int)), Pd.eq (.pointer (some (adI.add k))), Pd.eq (.slice (some ⟨gy, oy, none⟩) (unitq d k).length cR), Pd.eq (.int .i64 (k : Int)), Pd.eq (.pointer (some ⟨gy, oy + k * 3, none⟩)), Pd.eq (.agg #[.bool (ngB (1 : Rat).num), .slice Ay (digs 4294967296 (1 : Rat).num.natAbs).length cy, .slice Dy (digs 4294967296 (1 : Rat).den).length ey]), Pd.eq (.bool true), Pd.eq (.bool true), Pd.eq (.bool true), Pd.eq (.bool true), Pd.eq (.bool true), Pd.eq (.bool true), Pd.eq (.bool true), Pd.eq (.bool true)] (by kernel_rfl) ?ob2 ?done2
        case ob2 =>
          refine And.intro (ob_move rfl (wt_none rfl) (ev_far rfl rfl) (fun _ _ h => h)) ?_
          refine And.intro (ob_bin rfl (wt_none rfl) (ev_dep (j := 0) (by kernel_rfl) rfl rfl) (ev_const _) (fun _ _ _ hx hy => ⟨.bool ((0 : Int) == 0), by rw [hx, hy]; exact bin_eql_int _ _ _ _ _, congrArg Value.bool (by decide)⟩)) ?_
          refine And.intro (ob_move rfl (wt_none rfl) (ev_dep (j := 1) (by kernel_rfl) rfl rfl) (fun _ _ h => h)) ?_
          refine And.intro (ob_move rfl (wt_dep (c := true) (b := true) (g := 2) rfl (by kernel_rfl) rfl rfl rfl (by exact fun _ _ h => h)) (ev_far rfl rfl) (fun _ _ h => h)) ?_
          refine And.intro (ob_len rfl (wt_dep (c := true) (b := true) (g := 2) rfl (by kernel_rfl) rfl rfl rfl (by exact fun _ _ h => h)) (ev_dep (j := 3) (by kernel_rfl) rfl rfl) (fun _ _ hx => ⟨_, by rw [hx]; exact len_slice Tryz.underlying22 _ _ _ _, rfl⟩)) ?_
          refine And.intro (ob_move rfl (wt_dep (c := true) (b := true) (g := 2) rfl (by kernel_rfl) rfl rfl rfl (by exact fun _ _ h => h)) (ev_far rfl rfl) (fun _ _ h => h)) ?_
          refine And.intro (ob_bin rfl (wt_dep (c := true) (b := true) (g := 2) rfl (by kernel_rfl) rfl rfl rfl (by exact fun _ _ h => h)) (ev_dep (j := 4) (by kernel_rfl) rfl rfl) (ev_dep (j := 5) (by kernel_rfl) rfl rfl) (fun _ _ _ hx hy => ⟨.bool true, by rw [hx, hy, bin_eql_int, HILb.out], rfl⟩)) ?_
          refine And.intro (ob_pick (b := true) rfl (wt_none rfl) (ev_dep (j := 2) (by kernel_rfl) rfl rfl) (ev_dep (j := 6) (by kernel_rfl) rfl rfl) (fun _ _ h => h)) ?_
          refine And.intro (ob_move rfl (wt_none rfl) (ev_dep (j := 7) (by kernel_rfl) rfl rfl) (fun _ _ h => h)) ?_
          refine And.intro (ob_move rfl (wt_dep (c := true) (b := true) (g := 8) rfl (by kernel_rfl) rfl rfl rfl (by exact fun _ _ h => h)) (ev_far rfl rfl) (fun _ _ h => h)) ?_
          refine And.intro (ob_bin rfl (wt_dep (c := true) (b := true) (g := 8) rfl (by kernel_rfl) rfl rfl rfl (by exact fun _ _ h => h)) (ev_dep (j := 9) (by kernel_rfl) rfl rfl) (ev_const _) (fun _ _ _ hx hy => ⟨.bool false, by rw [hx, hy, bin_eql_int, HD0.out], rfl⟩)) ?_
          refine And.intro (ob_move rfl (wt_dep (c := true) (b := true) (g := 8) rfl (by kernel_rfl) rfl rfl rfl (by exact fun _ _ h => h)) (ev_dep (j := 10) (by kernel_rfl) rfl rfl) (fun _ _ h => h)) ?_
          refine And.intro (ob_move rfl (wt_dep (c := false) (b := false) (g := 11) rfl (by kernel_rfl) rfl rfl rfl (by exact fun _ _ h => h)) (ev_far rfl rfl) (fun _ _ h => h)) ?_
          refine And.intro (ob_move rfl (wt_dep (c := false) (b := false) (g := 11) rfl (by kernel_rfl) rfl rfl rfl (by exact fun _ _ h => h)) (ev_far rfl rfl) (fun _ _ h => h)) ?_
          refine And.intro (ob_indexAddr rfl (wt_dep (c := false) (b := false) (g := 11) rfl (by kernel_rfl) rfl rfl rfl (by exact fun _ _ h => h)) (ev_dep (j := 12) (by kernel_rfl) rfl rfl) (ev_dep (j := 13) (by kernel_rfl) rfl rfl) (fun _ _ _ hx hy => ⟨_, by rw [hx, hy]; exact index1_any (k := k) Tryz.underlying22 (by kernel_rfl) adI hki _, rfl⟩)) ?_
          refine And.intro (ob_load rfl (wt_dep (c := false) (b := false) (g := 11) rfl (by kernel_rfl) rfl rfl rfl (by exact fun _ _ h => h)) (ev_dep (j := 14) (by kernel_rfl) rfl rfl) (fun w2 hb => run_load1 Tryz.underlying39 rfl ((hb.cell (World.block_lt_of_cell? w11 _ ecR)).trans ecR)) (fun _ _ => rfl)) ?_
          refine And.intro (ob_call1 rfl Tryz.func17 (by kernel_rfl) (wt_dep (c := false) (b := false) (g := 11) rfl (by kernel_rfl) rfl rfl rfl (by exact fun _ _ h => h)) (ev_dep (j := 15) (by kernel_rfl) rfl rfl) (fun w2 u0 hb h0 => by obtain rfl := h0; exact (flead_gen _ (unitq d k) (k : Int) _ (sR.below hb) HLD.out).mono fun e w3 h => RetV.pd h)) ?_
          refine And.intro (ob_move rfl (wt_dep (c := false) (b := false) (g := 11) rfl (by kernel_rfl) rfl rfl rfl (by exact fun _ _ h => h)) (ev_far rfl rfl) (fun _ _ h => h)) ?_
          refine And.intro (ob_bin rfl (wt_dep (c := false) (b := false) (g := 11) rfl (by kernel_rfl) rfl rfl rfl (by exact fun _ _ h => h)) (ev_dep (j := 16) (by kernel_rfl) rfl rfl) (ev_dep (j := 17) (by kernel_rfl) rfl rfl) (fun _ _ _ hx hy => ⟨.bool ((k : Int) == (k : Int)), by rw [hx, hy]; exact bin_eql_int _ _ _ _ _, congrArg Value.bool (beq_self_eq_true _)⟩)) ?_
          refine And.intro (ob_move rfl (wt_dep (c := false) (b := false) (g := 11) rfl (by kernel_rfl) rfl rfl rfl (by exact fun _ _ h => h)) (ev_dep (j := 18) (by kernel_rfl) rfl rfl) (fun _ _ h => h)) ?_
          refine And.intro (ob_move rfl (wt_dep (c := true) (b := true) (g := 19) rfl (by kernel_rfl) rfl rfl rfl (by exact fun _ _ h => h)) (ev_far rfl rfl) (fun _ _ h => h)) ?_
          refine And.intro (ob_move rfl (wt_dep (c := true) (b := true) (g := 19) rfl (by kernel_rfl) rfl rfl rfl (by exact fun _ _ h => h)) (ev_far rfl rfl) (fun _ _ h => h)) ?_
          refine And.intro (ob_indexAddr rfl (wt_dep (c := true) (b := true) (g := 19) rfl (by kernel_rfl) rfl rfl rfl (by exact fun _ _ h => h)) (ev_dep (j := 20) (by kernel_rfl) rfl rfl) (ev_dep (j := 21) (by kernel_rfl) rfl rfl) (fun _ _ _ hx hy => ⟨_, by rw [hx, hy]; exact index1_any (k := k) Tryz.underlying22 (by kernel_rfl) adI hki _, rfl⟩)) ?_
          refine And.intro (ob_load rfl (wt_dep (c := true) (b := true) (g := 19) rfl (by kernel_rfl) rfl rfl rfl (by exact fun _ _ h => h)) (ev_dep (j := 22) (by kernel_rfl) rfl rfl) (fun w2 hb => run_load1 Tryz.underlying39 rfl ((hb.cell (World.block_lt_of_cell? w11 _ ecR)).trans ecR)) (fun _ _ => rfl)) ?_
          refine And.intro (ob_len rfl (wt_dep (c := true) (b := true) (g := 19) rfl (by kernel_rfl) rfl rfl rfl (by exact fun _ _ h => h)) (ev_dep (j := 23) (by kernel_rfl) rfl rfl) (fun _ _ hx => ⟨_, by rw [hx]; exact len_slice Tryz.underlying39 _ _ _ _, rfl⟩)) ?_
          refine And.intro (ob_move rfl (wt_dep (c := true) (b := true) (g := 19) rfl (by kernel_rfl) rfl rfl rfl (by exact fun _ _ h => h)) (ev_far rfl rfl) (fun _ _ h => h)) ?_
          refine And.intro (ob_bin rfl (wt_dep (c := true) (b := true) (g := 19) rfl (by kernel_rfl) rfl rfl rfl (by exact fun _ _ h => h)) (ev_dep (j := 24) (by kernel_rfl) rfl rfl) (ev_dep (j := 25) (by kernel_rfl) rfl rfl) (fun _ _ _ hx hy => ⟨.bool true, by rw [hx, hy, bin_eql_int, HRb.out], rfl⟩)) ?_
          refine And.intro (ob_pick (b := true) rfl (wt_dep (c := false) (b := false) (g := 11) rfl (by kernel_rfl) rfl rfl rfl (by exact fun _ _ h => h)) (ev_dep (j := 19) (by kernel_rfl) rfl rfl) (ev_dep (j := 26) (by kernel_rfl) rfl rfl) (fun _ _ h => h)) ?_
          refine And.intro (ob_move rfl (wt_dep (c := false) (b := false) (g := 11) rfl (by kernel_rfl) rfl rfl rfl (by exact fun _ _ h => h)) (ev_dep (j := 27) (by kernel_rfl) rfl rfl) (fun _ _ h => h)) ?_
          refine And.intro (ob_move rfl (wt_dep (c := true) (b := true) (g := 28) rfl (by kernel_rfl) rfl rfl rfl (by exact fun _ _ h => h)) (ev_far rfl rfl) (fun _ _ h => h)) ?_
          refine And.intro (ob_move rfl (wt_dep (c := true) (b := true) (g := 28) rfl (by kernel_rfl) rfl rfl rfl (by exact fun _ _ h => h)) (ev_far rfl rfl) (fun _ _ h => h)) ?_
          refine And.intro (ob_indexAddr rfl (wt_dep (c := true) (b := true) (g := 28) rfl (by kernel_rfl) rfl rfl rfl (by exact fun _ _ h => h)) (ev_dep (j := 29) (by kernel_rfl) rfl rfl) (ev_dep (j := 30) (by kernel_rfl) rfl rfl) (fun _ _ _ hx hy => ⟨_, by rw [hx, hy]; exact index1_any (k := k) Tryz.underlying22 (by kernel_rfl) adI hki _, rfl⟩)) ?_
          refine And.intro (ob_load rfl (wt_dep (c := true) (b := true) (g := 28) rfl (by kernel_rfl) rfl rfl rfl (by exact fun _ _ h => h)) (ev_dep (j := 31) (by kernel_rfl) rfl rfl) (fun w2 hb => run_load1 Tryz.underlying39 rfl ((hb.cell (World.block_lt_of_cell? w11 _ ecR)).trans ecR)) (fun _ _ => rfl)) ?_
          refine And.intro (ob_move rfl (wt_dep (c := true) (b := true) (g := 28) rfl (by kernel_rfl) rfl rfl rfl (by exact fun _ _ h => h)) (ev_far rfl rfl) (fun _ _ h => h)) ?_
          refine And.intro (ob_indexAddr rfl (wt_dep (c := true) (b := true) (g := 28) rfl (by kernel_rfl) rfl rfl rfl (by exact fun _ _ h => h)) (ev_dep (j := 32) (by kernel_rfl) rfl rfl) (ev_dep (j := 33) (by kernel_rfl) rfl rfl) (fun _ _ _ hx hy => ⟨_, by rw [hx, hy]; exact index3 (k := k) Tryz.underlying39 (by kernel_rfl) hkl _, rfl⟩)) ?_
          refine And.intro (ob_load rfl (wt_dep (c := true) (b := true) (g := 28) rfl (by kernel_rfl) rfl rfl rfl (by exact fun _ _ h => h)) (ev_dep (j := 34) (by kernel_rfl) rfl rfl) (fun w2 hb => load3 Tryz.underlying46 rfl (by kernel_rfl) ((hb.cell (World.block_lt_of_cell? w11 _ y0)).trans y0) ((hb.cell (World.block_lt_of_cell? w11 _ y1)).trans y1) ((hb.cell (World.block_lt_of_cell? w11 _ y2)).trans y2)) (fun _ _ => rfl)) ?_
          refine And.intro (ob_call1 rfl Tryz.func18 (by kernel_rfl) (wt_dep (c := true) (b := true) (g := 28) rfl (by kernel_rfl) rfl rfl rfl (by exact fun _ _ h => h)) (ev_dep (j := 35) (by kernel_rfl) rfl rfl) (fun w2 u0 hb h0 => by obtain rfl := h0; exact (one8_any _ 1 true _ (zy.below hb) HO1.out).mono fun e w3 h => RetV.pd h)) ?_
          refine And.intro (ob_pick (b := true) rfl (wt_dep (c := false) (b := false) (g := 11) rfl (by kernel_rfl) rfl rfl rfl (by exact fun _ _ h => h)) (ev_dep (j := 28) (by kernel_rfl) rfl rfl) (ev_dep (j := 36) (by kernel_rfl) rfl rfl) (fun _ _ h => h)) ?_
          refine And.intro (ob_pick (b := false) rfl (wt_dep (c := true) (b := true) (g := 8) rfl (by kernel_rfl) rfl rfl rfl (by exact fun _ _ h => h)) (ev_dep (j := 11) (by kernel_rfl) rfl rfl) (ev_dep (j := 37) (by kernel_rfl) rfl rfl) (fun _ _ h => h)) ?_
          refine And.intro (ob_pick (b := true) rfl (wt_none rfl) (ev_dep (j := 8) (by kernel_rfl) rfl rfl) (ev_dep (j := 38) (by kernel_rfl) rfl rfl) (fun _ _ h => h)) ?_
          refine And.intro (ob_move rfl (wt_none rfl) (ev_dep (j := 39) (by kernel_rfl) rfl rfl) (fun _ _ h => h)) ?_
          refine And.intro (ob_call0 rfl Tryz.func15 (by kernel_rfl) (wt_dep (c := true) (b := true) (g := 40) rfl (by kernel_rfl) rfl rfl rfl (by exact fun _ _ h => h)) (fun w2 hb => (works12_any _).mono fun e w3 h => RetV.pd h)) ?_
          refine And.intro (ob_pick (b := true) rfl (wt_none rfl) (ev_dep (j := 40) (by kernel_rfl) rfl rfl) (ev_dep (j := 41) (by kernel_rfl) rfl rfl) (fun _ _ h => h)) ?_
          refine And.intro (ob_assign rfl (wt_none rfl) (ev_dep (j := 42) (by kernel_rfl) rfl rfl) (fun _ _ h => h)) ?_
          trivial
        case done2 =>
          refine fun w41 hb41 v0 h0 v1 h1 v2 h2 v3 h3 v4 h4 v5 h5 v6 h6 v7 h7 v8 h8 v9 h9 v10 h10 v11 h11 v12 h12 v13 h13 v14 h14 v15 h15 v16 h16 v17 h17 v18 h18 v19 h19 v20 h20 v21 h21 v22 h22 v23 h23 v24 h24 v25 h25 v26 h26 v27 h27 v28 h28 v29 h29 v30 h30 v31 h31 v32 h32 v33 h33 v34 h34 v35 h35 v36 h36 v37 h37 v38 h38 v39 h39 v40 h40 v41 h41 v42 h42 v43 h43 b hbf => ?_
          obtain rfl := h0; obtain rfl := h1; obtain rfl := h2; obtain rfl := h3; obtain rfl := h4; obtain rfl := h5; obtain rfl := h6; obtain rfl := h7; obtain rfl := h8; obtain rfl := h9; obtain rfl := h10; obtain rfl := h11; obtain rfl := h12; obtain rfl := h13; obtain rfl := h14; obtain rfl := h15; obtain rfl := h16; obtain rfl := h17; obtain rfl := h18; obtain rfl := h19; obtain rfl := h20; obtain rfl := h21; obtain rfl := h22; obtain rfl := h23; obtain rfl := h24; obtain rfl := h25; obtain rfl := h26; obtain rfl := h27; obtain rfl := h28; obtain rfl := h29; obtain rfl := h30; obtain rfl := h31; obtain rfl := h32; obtain rfl := h33; obtain rfl := h34; obtain rfl := h35; obtain rfl := h36; obtain rfl := h37; obtain rfl := h38; obtain rfl := h39; obtain rfl := h40; obtain rfl := h41; obtain rfl := h42; obtain rfl := h43
          simp only [Act.put, List.setIfInBounds_toArray, List.set_cons_zero, List.set_cons_succ] at hbf
          subst hbf
          replace bb := bb.trans (hb41.mono bb.size)
          have hsz41 := bb.size
          refine ops_done ?_
          go_wp2
          go_ret
          exact ⟨rfl, bb⟩
    · refine (among_any _ (d : Int) d _ rfl (by omega)).mono ?_
      rintro e w11 ⟨k, rfl, hkd, b11⟩
      have bb11 := bb10.trans (b11.mono bb10.size)
      have SI11 := SI10.below b11
      clear b11 SI10
      have bb := bb11
      by_cases hd0 : d = 0
      · have HD0 : Hid (((d : Int) == 0) = true) := by show _ = _; rw [beq_iff_eq]; omega
        clear hd0
        go_upto_region 10 with (fail)
        refine flowp 44 [Pd.eq (.int .i64 0), Pd.eq (.bool true), Pd.eq (.bool true), Pd.eq (.slice AI I.length cI), Pd.eq (.int .i64 ((I.length : Nat) : Int)), Pd.eq (.int .i64 (d : Int)), Pd.eq (.bool true), Pd.eq (.bool true), Pd.eq (.bool true), Pd.eq (.int .i64 (d : Int)), Pd.eq (.bool true), Pd.eq (.bool true), Pd.any, Pd.any, Pd.any, Pd.any, Pd.any, Pd.any, Pd.any, Pd.eq (undef), Pd.any, Pd.any, Pd.any, Pd.any, Pd.any, Pd.any, Pd.any, Pd.any, Pd.eq (undef), Pd.any, Pd.any, Pd.any, Pd.any, Pd.any, Pd.any, Pd.any, Pd.any, Pd.any, Pd.eq (.bool true), Pd.eq (.bool true), Pd.eq (.bool true), Pd.eq (.bool true), Pd.eq (.bool true), Pd.eq (.bool true)] (by kernel_rfl) ?ob3 ?done3
        case ob3 =>
          refine And.intro (ob_move rfl (wt_none rfl) (ev_far rfl rfl) (fun _ _ h => h)) ?_
          refine And.intro (ob_bin rfl (wt_none rfl) (ev_dep (j := 0) (by kernel_rfl) rfl rfl) (ev_const _) (fun _ _ _ hx hy => ⟨.bool ((0 : Int) == 0), by rw [hx, hy]; exact bin_eql_int _ _ _ _ _, congrArg Value.bool (by decide)⟩)) ?_
          refine And.intro (ob_move rfl (wt_none rfl) (ev_dep (j := 1) (by kernel_rfl) rfl rfl) (fun _ _ h => h)) ?_
          refine And.intro (ob_move rfl (wt_dep (c := true) (b := true) (g := 2) rfl (by kernel_rfl) rfl rfl rfl (by exact fun _ _ h => h)) (ev_far rfl rfl) (fun _ _ h => h)) ?_
          refine And.intro (ob_len rfl (wt_dep (c := true) (b := true) (g := 2) rfl (by kernel_rfl) rfl rfl rfl (by exact fun _ _ h => h)) (ev_dep (j := 3) (by kernel_rfl) rfl rfl) (fun _ _ hx => ⟨_, by rw [hx]; exact len_slice Tryz.underlying22 _ _ _ _, rfl⟩)) ?_
          refine And.intro (ob_move rfl (wt_dep (c := true) (b := true) (g := 2) rfl (by kernel_rfl) rfl rfl rfl (by exact fun _ _ h => h)) (ev_far rfl rfl) (fun _ _ h => h)) ?_
          refine And.intro (ob_bin rfl (wt_dep (c := true) (b := true) (g := 2) rfl (by kernel_rfl) rfl rfl rfl (by exact fun _ _ h => h)) (ev_dep (j := 4) (by kernel_rfl) rfl rfl) (ev_dep (j := 5) (by kernel_rfl) rfl rfl) (fun _ _ _ hx hy => ⟨.bool true, by rw [hx, hy, bin_eql_int, HILb.out], rfl⟩)) ?_
          refine And.intro (ob_pick (b := true) rfl (wt_none rfl) (ev_dep (j := 2) (by kernel_rfl) rfl rfl) (ev_dep (j := 6) (by kernel_rfl) rfl rfl) (fun _ _ h => h)) ?_
          refine And.intro (ob_move rfl (wt_none rfl) (ev_dep (j := 7) (by kernel_rfl) rfl rfl) (fun _ _ h => h)) ?_
          refine And.intro (ob_move rfl (wt_dep (c := true) (b := true) (g := 8) rfl (by kernel_rfl) rfl rfl rfl (by exact fun _ _ h => h)) (ev_far rfl rfl) (fun _ _ h => h)) ?_
          refine And.intro (ob_bin rfl (wt_dep (c := true) (b := true) (g := 8) rfl (by kernel_rfl) rfl rfl rfl (by exact fun _ _ h => h)) (ev_dep (j := 9) (by kernel_rfl) rfl rfl) (ev_const _) (fun _ _ _ hx hy => ⟨.bool true, by rw [hx, hy, bin_eql_int, HD0.out], rfl⟩)) ?_
          refine And.intro (ob_move rfl (wt_dep (c := true) (b := true) (g := 8) rfl (by kernel_rfl) rfl rfl rfl (by exact fun _ _ h => h)) (ev_dep (j := 10) (by kernel_rfl) rfl rfl) (fun _ _ h => h)) ?_
          refine And.intro (ob_not (wt_dep (c := true) (b := false) (g := 11) rfl (by kernel_rfl) rfl rfl rfl (by exact fun _ _ h => h)) (fun _ => trivial) rfl) ?_
          refine And.intro (ob_not (wt_dep (c := true) (b := false) (g := 11) rfl (by kernel_rfl) rfl rfl rfl (by exact fun _ _ h => h)) (fun _ => trivial) rfl) ?_
          refine And.intro (ob_not (wt_dep (c := true) (b := false) (g := 11) rfl (by kernel_rfl) rfl rfl rfl (by exact fun _ _ h => h)) (fun _ => trivial) rfl) ?_
          refine And.intro (ob_not (wt_dep (c := true) (b := false) (g := 11) rfl (by kernel_rfl) rfl rfl rfl (by exact fun _ _ h => h)) (fun _ => trivial) rfl) ?_
          refine And.intro (ob_not (wt_dep (c := true) (b := false) (g := 11) rfl (by kernel_rfl) rfl rfl rfl (by exact fun _ _ h => h)) (fun _ => trivial) rfl) ?_
          refine And.intro (ob_not (wt_dep (c := true) (b := false) (g := 11) rfl (by kernel_rfl) rfl rfl rfl (by exact fun _ _ h => h)) (fun _ => trivial) rfl) ?_
          refine And.intro (ob_not (wt_dep (c := true) (b := false) (g := 11) rfl (by kernel_rfl) rfl rfl rfl (by exact fun _ _ h => h)) (fun _ => trivial) rfl) ?_
          refine And.intro (ob_not (wt_dep (c := true) (b := false) (g := 11) rfl (by kernel_rfl) rfl rfl rfl (by exact fun _ _ h => h)) (fun _ => rfl) rfl) ?_
          refine And.intro (ob_not (wt_undef (b := true) (g := 19) rfl (by kernel_rfl) rfl rfl rfl (by exact fun _ _ h => h)) (fun _ => trivial) rfl) ?_
          refine And.intro (ob_not (wt_undef (b := true) (g := 19) rfl (by kernel_rfl) rfl rfl rfl (by exact fun _ _ h => h)) (fun _ => trivial) rfl) ?_
          refine And.intro (ob_not (wt_undef (b := true) (g := 19) rfl (by kernel_rfl) rfl rfl rfl (by exact fun _ _ h => h)) (fun _ => trivial) rfl) ?_
          refine And.intro (ob_not (wt_undef (b := true) (g := 19) rfl (by kernel_rfl) rfl rfl rfl (by exact fun _ _ h => h)) (fun _ => trivial) rfl) ?_
          refine And.intro (ob_not (wt_undef (b := true) (g := 19) rfl (by kernel_rfl) rfl rfl rfl (by exact fun _ _ h => h)) (fun _ => trivial) rfl) ?_
          refine And.intro (ob_not (wt_undef (b := true) (g := 19) rfl (by kernel_rfl) rfl rfl rfl (by exact fun _ _ h => h)) (fun _ => trivial) rfl) ?_
          refine And.intro (ob_not (wt_undef (b := true) (g := 19) rfl (by kernel_rfl) rfl rfl rfl (by exact fun _ _ h => h)) (fun _ => trivial) rfl) ?_
          refine And.intro (ob_not (wt_dep (c := true) (b := false) (g := 11) rfl (by kernel_rfl) rfl rfl rfl (by exact fun _ _ h => h)) (fun _ => trivial) rfl) ?_
          refine And.intro (ob_not (wt_dep (c := true) (b := false) (g := 11) rfl (by kernel_rfl) rfl rfl rfl (by exact fun _ _ h => h)) (fun _ => rfl) rfl) ?_
          refine And.intro (ob_not (wt_undef (b := true) (g := 28) rfl (by kernel_rfl) rfl rfl rfl (by exact fun _ _ h => h)) (fun _ => trivial) rfl) ?_
          refine And.intro (ob_not (wt_undef (b := true) (g := 28) rfl (by kernel_rfl) rfl rfl rfl (by exact fun _ _ h => h)) (fun _ => trivial) rfl) ?_
          refine And.intro (ob_not (wt_undef (b := true) (g := 28) rfl (by kernel_rfl) rfl rfl rfl (by exact fun _ _ h => h)) (fun _ => trivial) rfl) ?_
          refine And.intro (ob_not (wt_undef (b := true) (g := 28) rfl (by kernel_rfl) rfl rfl rfl (by exact fun _ _ h => h)) (fun _ => trivial) rfl) ?_
          refine And.intro (ob_not (wt_undef (b := true) (g := 28) rfl (by kernel_rfl) rfl rfl rfl (by exact fun _ _ h => h)) (fun _ => trivial) rfl) ?_
          refine And.intro (ob_not (wt_undef (b := true) (g := 28) rfl (by kernel_rfl) rfl rfl rfl (by exact fun _ _ h => h)) (fun _ => trivial) rfl) ?_
          refine And.intro (ob_not (wt_undef (b := true) (g := 28) rfl (by kernel_rfl) rfl rfl rfl (by exact fun _ _ h => h)) (fun _ => trivial) rfl) ?_
          refine And.intro (ob_not (wt_undef (b := true) (g := 28) rfl (by kernel_rfl) rfl rfl rfl (by exact fun _ _ h => h)) (fun _ => trivial) rfl) ?_
          refine And.intro (ob_not (wt_dep (c := true) (b := false) (g := 11) rfl (by kernel_rfl) rfl rfl rfl (by exact fun _ _ h => h)) (fun _ => trivial) rfl) ?_
          refine And.intro (ob_pick (b := true) rfl (wt_dep (c := true) (b := true) (g := 8) rfl (by kernel_rfl) rfl rfl rfl (by exact fun _ _ h => h)) (ev_dep (j := 11) (by kernel_rfl) rfl rfl) (ev_const _) (fun _ _ h => h)) ?_
          refine And.intro (ob_pick (b := true) rfl (wt_none rfl) (ev_dep (j := 8) (by kernel_rfl) rfl rfl) (ev_dep (j := 38) (by kernel_rfl) rfl rfl) (fun _ _ h => h)) ?_
          refine And.intro (ob_move rfl (wt_none rfl) (ev_dep (j := 39) (by kernel_rfl) rfl rfl) (fun _ _ h => h)) ?_
          refine And.intro (ob_call0 rfl Tryz.func15 (by kernel_rfl) (wt_dep (c := true) (b := true) (g := 40) rfl (by kernel_rfl) rfl rfl rfl (by exact fun _ _ h => h)) (fun w2 hb => (works12_any _).mono fun e w3 h => RetV.pd h)) ?_
          refine And.intro (ob_pick (b := true) rfl (wt_none rfl) (ev_dep (j := 40) (by kernel_rfl) rfl rfl) (ev_dep (j := 41) (by kernel_rfl) rfl rfl) (fun _ _ h => h)) ?_
          refine And.intro (ob_assign rfl (wt_none rfl) (ev_dep (j := 42) (by kernel_rfl) rfl rfl) (fun _ _ h => h)) ?_
          trivial
        case done3 =>
          refine fun w41 hb41 v0 h0 v1 h1 v2 h2 v3 h3 v4 h4 v5 h5 v6 h6 v7 h7 v8 h8 v9 h9 v10 h10 v11 h11 v12 h12 v13 h13 v14 h14 v15 h15 v16 h16 v17 h17 v18 h18 v19 h19 v20 h20 v21 h21 v22 h22 v23 h23 v24 h24 v25 h25 v26 h26 v27 h27 v28 h28 v29 h29 v30 h30 v31 h31 v32 h32 v33 h33 v34 h34 v35 h35 v36 h36 v37 h37 v38 h38 v39 h39 v40 h40 v41 h41 v42 h42 v43 h43 b hbf => ?_
          obtain rfl := h0; obtain rfl := h1; obtain rfl := h2; obtain rfl := h3; obtain rfl := h4; obtain rfl := h5; obtain rfl := h6; obtain rfl := h7; obtain rfl := h8; obtain rfl := h9; obtain rfl := h10; obtain rfl := h11; obtain rfl := h19; obtain rfl := h28; obtain rfl := h38; obtain rfl := h39; obtain rfl := h40; obtain rfl := h41; obtain rfl := h42; obtain rfl := h43
          clear h12
          clear h13
          clear h14
          clear h15
          clear h16
          clear h17
          clear h18
          clear h20
          clear h21
          clear h22
          clear h23
          clear h24
          clear h25
          clear h26
          clear h27
          clear h29
          clear h30
          clear h31
          clear h32
          clear h33
          clear h34
          clear h35
          clear h36
          clear h37
          simp only [Act.put, List.setIfInBounds_toArray, List.set_cons_zero, List.set_cons_succ] at hbf
          subst hbf
          replace bb := bb.trans (hb41.mono bb.size)
          have hsz41 := bb.size
          refine ops_done ?_
          go_wp2
          go_ret
          exact ⟨rfl, bb⟩
      · have HD0 : Hid (((d : Int) == 0) = false) := by show _ = _; rw [beq_eq_false_iff_ne]; omega
        have hkd' : k < d := by omega
        obtain ⟨adI, rfl⟩ := SI11.place (HNEH.out (by omega))
        obtain ⟨AR, cR, hki, ecR, sR⟩ := SI11.at2 (HIAH.out k hkd')
        have HRb : Hid (((((unitq d k).length : Nat) : Int) == (d : Int)) = true) := by show _ = _; rw [HRLH.out k]; exact beq_self_eq_true _
        have HLD : Hid (((k : Nat) : Int) = ((leadq (unitq d k) : Nat) : Int)) := by show _ = _; rw [leadq_unit hkd']
        obtain ⟨gy, oy, uy, ty, hAy, hkl, y0, y1, y2, ys, yd⟩ := sR.at_ (unitq_at hkd')
        subst hAy
        obtain ⟨Ay, cy, rfl, _⟩ := id ys
        obtain ⟨Dy, ey, rfl, _⟩ := id yd
        have zy : IsQ w11 (.agg #[.bool (ngB (1 : Rat).num), .slice Ay (digs 4294967296 (1 : Rat).num.natAbs).length cy, .slice Dy (digs 4294967296 (1 : Rat).den).length ey]) 1 := ⟨_, _, rfl, ys, yd⟩
        have HO1 : Hid (true = decide ((1 : Rat) = ((1 : Int) : Rat))) := by show _ = _; decide +kernel
        go_upto_region 10 with (fail)
        refine flowp 44 [Pd.eq (.int .i64 0), Pd.eq (.bool true), Pd.eq (.bool true), Pd.eq (.slice (some adI) I.length cI), Pd.eq (.int .i64 ((I.length : Nat) : Int)), Pd.eq (.int .i64 (d : Int)), Pd.eq (.bool true), Pd.eq (.bool true), Pd.eq (.bool true), Pd.eq (.int .i64 (d : Int)), Pd.eq (.bool false), Pd.eq (.bool false), Pd.eq (.slice (some adI) I.length cI), Pd.eq (.int .i64 (k : Int)), Pd.eq (.pointer (some (adI.add k))), Pd.eq (.slice (some ⟨gy, oy, none⟩) (unitq d k).length cR), Pd.eq (.int .i64 (k : Int)), Pd.eq (.int .i64 (k : Int)), Pd.eq (.bool true), Pd.eq (.bool true), Pd.eq (.slice (some adI) I.length cI), Pd.eq (.int .i64 (k : Int)), Pd.eq (.pointer (some (adI.add k))), Pd.eq (.slice (some ⟨gy, oy, none⟩) (unitq d k).length cR), Pd.eq (.int .i64 (((unitq d k).length : Nat) : Int)), Pd.eq (.int .i64 (d : Int)), Pd.eq (.bool true), Pd.eq (.bool true), Pd.eq (.bool true), Pd.eq (.slice (some adI) I.length cI), Pd.eq (.int .i64 (k : Int)), Pd.eq (.pointer (some (adI.add k))), Pd.eq (.slice (some ⟨gy, oy, none⟩) (unitq d k).length cR), Pd.eq (.int .i64 (k : Int)), Pd.eq (.pointer (some ⟨gy, oy + k * 3, none⟩)), Pd.eq (.agg #[.bool (ngB (1 : Rat).num), .slice Ay (digs 4294967296 (1 : Rat).num.natAbs).length cy, .slice Dy (digs 4294967296 (1 : Rat).den).length ey]), Pd.eq (.bool true), Pd.eq (.bool true), Pd.eq (.bool true), Pd.eq (.bool true), Pd.eq (.bool true), Pd.eq (.bool true), Pd.eq (.bool true), Pd.eq (.bool true)] (by kernel_rfl) ?ob4 ?done4
        case ob4 =>
          refine And.intro (ob_move rfl (wt_none rfl) (ev_far rfl rfl) (fun _ _ h => h)) ?_
          refine And.intro (ob_bin rfl (wt_none rfl) (ev_dep (j := 0) (by kernel_rfl) rfl rfl) (ev_const _) (fun _ _ _ hx hy => ⟨.bool ((0 : Int) == 0), by rw [hx, hy]; exact bin_eql_int _ _ _ _ _, congrArg Value.bool (by decide)⟩)) ?_
          refine And.intro (ob_move rfl (wt_none rfl) (ev_dep (j := 1) (by kernel_rfl) rfl rfl) (fun _ _ h => h)) ?_
          refine And.intro (ob_move rfl (wt_dep (c := true) (b := true) (g := 2) rfl (by kernel_rfl) rfl rfl rfl (by exact fun _ _ h => h)) (ev_far rfl rfl) (fun _ _ h => h)) ?_
          refine And.intro (ob_len rfl (wt_dep (c := true) (b := true) (g := 2) rfl (by kernel_rfl) rfl rfl rfl (by exact fun _ _ h => h)) (ev_dep (j := 3) (by kernel_rfl) rfl rfl) (fun _ _ hx => ⟨_, by rw [hx]; exact len_slice Tryz.underlying22 _ _ _ _, rfl⟩)) ?_
          refine And.intro (ob_move rfl (wt_dep (c := true) (b := true) (g := 2) rfl (by kernel_rfl) rfl rfl rfl (by exact fun _ _ h => h)) (ev_far rfl rfl) (fun _ _ h => h)) ?_
          refine And.intro (ob_bin rfl (wt_dep (c := true) (b := true) (g := 2) rfl (by kernel_rfl) rfl rfl rfl (by exact fun _ _ h => h)) (ev_dep (j := 4) (by kernel_rfl) rfl rfl) (ev_dep (j := 5) (by kernel_rfl) rfl rfl) (fun _ _ _ hx hy => ⟨.bool true, by rw [hx, hy, bin_eql_int, HILb.out], rfl⟩)) ?_
          refine And.intro (ob_pick (b := true) rfl (wt_none rfl) (ev_dep (j := 2) (by kernel_rfl) rfl rfl) (ev_dep (j := 6) (by kernel_rfl) rfl rfl) (fun _ _ h => h)) ?_
          refine And.intro (ob_move rfl (wt_none rfl) (ev_dep (j := 7) (by kernel_rfl) rfl rfl) (fun _ _ h => h)) ?_
          refine And.intro (ob_move rfl (wt_dep (c := true) (b := true) (g := 8) rfl (by kernel_rfl) rfl rfl rfl (by exact fun _ _ h => h)) (ev_far rfl rfl) (fun _ _ h => h)) ?_
          refine And.intro (ob_bin rfl (wt_dep (c := true) (b := true) (g := 8) rfl (by kernel_rfl) rfl rfl rfl (by exact fun _ _ h => h)) (ev_dep (j := 9) (by kernel_rfl) rfl rfl) (ev_const _) (fun _ _ _ hx hy => ⟨.bool false, by rw [hx, hy, bin_eql_int, HD0.out], rfl⟩)) ?_
          refine And.intro (ob_move rfl (wt_dep (c := true) (b := true) (g := 8) rfl (by kernel_rfl) rfl rfl rfl (by exact fun _ _ h => h)) (ev_dep (j := 10) (by kernel_rfl) rfl rfl) (fun _ _ h => h)) ?_
          refine And.intro (ob_move rfl (wt_dep (c := false) (b := false) (g := 11) rfl (by kernel_rfl) rfl rfl rfl (by exact fun _ _ h => h)) (ev_far rfl rfl) (fun _ _ h => h)) ?_
          refine And.intro (ob_move rfl (wt_dep (c := false) (b := false) (g := 11) rfl (by kernel_rfl) rfl rfl rfl (by exact fun _ _ h => h)) (ev_far rfl rfl) (fun _ _ h => h)) ?_
          refine And.intro (ob_indexAddr rfl (wt_dep (c := false) (b := false) (g := 11) rfl (by kernel_rfl) rfl rfl rfl (by exact fun _ _ h => h)) (ev_dep (j := 12) (by kernel_rfl) rfl rfl) (ev_dep (j := 13) (by kernel_rfl) rfl rfl) (fun _ _ _ hx hy => ⟨_, by rw [hx, hy]; exact index1_any (k := k) Tryz.underlying22 (by kernel_rfl) adI hki _, rfl⟩)) ?_
          refine And.intro (ob_load rfl (wt_dep (c := false) (b := false) (g := 11) rfl (by kernel_rfl) rfl rfl rfl (by exact fun _ _ h => h)) (ev_dep (j := 14) (by kernel_rfl) rfl rfl) (fun w2 hb => run_load1 Tryz.underlying39 rfl ((hb.cell (World.block_lt_of_cell? w11 _ ecR)).trans ecR)) (fun _ _ => rfl)) ?_
          refine And.intro (ob_call1 rfl Tryz.func17 (by kernel_rfl) (wt_dep (c := false) (b := false) (g := 11) rfl (by kernel_rfl) rfl rfl rfl (by exact fun _ _ h => h)) (ev_dep (j := 15) (by kernel_rfl) rfl rfl) (fun w2 u0 hb h0 => by obtain rfl := h0; exact (flead_gen _ (unitq d k) (k : Int) _ (sR.below hb) HLD.out).mono fun e w3 h => RetV.pd h)) ?_
          refine And.intro (ob_move rfl (wt_dep (c := false) (b := false) (g := 11) rfl (by kernel_rfl) rfl rfl rfl (by exact fun _ _ h => h)) (ev_far rfl rfl) (fun _ _ h => h)) ?_
          refine And.intro (ob_bin rfl (wt_dep (c := false) (b := false) (g := 11) rfl (by kernel_rfl) rfl rfl rfl (by exact fun _ _ h => h)) (ev_dep (j := 16) (by kernel_rfl) rfl rfl) (ev_dep (j := 17) (by kernel_rfl) rfl rfl) (fun _ _ _ hx hy => ⟨.bool ((k : Int) == (k : Int)), by rw [hx, hy]; exact bin_eql_int _ _ _ _ _, congrArg Value.bool (beq_self_eq_true _)⟩)) ?_
          refine And.intro (ob_move rfl (wt_dep (c := false) (b := false) (g := 11) rfl (by kernel_rfl) rfl rfl rfl (by exact fun _ _ h => h)) (ev_dep (j := 18) (by kernel_rfl) rfl rfl) (fun _ _ h => h)) ?_
          refine And.intro (ob_move rfl (wt_dep (c := true) (b := true) (g := 19) rfl (by kernel_rfl) rfl rfl rfl (by exact fun _ _ h => h)) (ev_far rfl rfl) (fun _ _ h => h)) ?_
          refine And.intro (ob_move rfl (wt_dep (c := true) (b := true) (g := 19) rfl (by kernel_rfl) rfl rfl rfl (by exact fun _ _ h => h)) (ev_far rfl rfl) (fun _ _ h => h)) ?_
          refine And.intro (ob_indexAddr rfl (wt_dep (c := true) (b := true) (g := 19) rfl (by kernel_rfl) rfl rfl rfl (by exact fun _ _ h => h)) (ev_dep (j := 20) (by kernel_rfl) rfl rfl) (ev_dep (j := 21) (by kernel_rfl) rfl rfl) (fun _ _ _ hx hy => ⟨_, by rw [hx, hy]; exact index1_any (k := k) Tryz.underlying22 (by kernel_rfl) adI hki _, rfl⟩)) ?_
          refine And.intro (ob_load rfl (wt_dep (c := true) (b := true) (g := 19) rfl (by kernel_rfl) rfl rfl rfl (by exact fun _ _ h => h)) (ev_dep (j := 22) (by kernel_rfl) rfl rfl) (fun w2 hb => run_load1 Tryz.underlying39 rfl ((hb.cell (World.block_lt_of_cell? w11 _ ecR)).trans ecR)) (fun _ _ => rfl)) ?_
          refine And.intro (ob_len rfl (wt_dep (c := true) (b := true) (g := 19) rfl (by kernel_rfl) rfl rfl rfl (by exact fun _ _ h => h)) (ev_dep (j := 23) (by kernel_rfl) rfl rfl) (fun _ _ hx => ⟨_, by rw [hx]; exact len_slice Tryz.underlying39 _ _ _ _, rfl⟩)) ?_
          refine And.intro (ob_move rfl (wt_dep (c := true) (b := true) (g := 19) rfl (by kernel_rfl) rfl rfl rfl (by exact fun _ _ h => h)) (ev_far rfl rfl) (fun _ _ h => h)) ?_
          refine And.intro (ob_bin rfl (wt_dep (c := true) (b := true) (g := 19) rfl (by kernel_rfl) rfl rfl rfl (by exact fun _ _ h => h)) (ev_dep (j := 24) (by kernel_rfl) rfl rfl) (ev_dep (j := 25) (by kernel_rfl) rfl rfl) (fun _ _ _ hx hy => ⟨.bool true, by rw [hx, hy, bin_eql_int, HRb.out], rfl⟩)) ?_
          refine And.intro (ob_pick (b := true) rfl (wt_dep (c := false) (b := false) (g := 11) rfl (by kernel_rfl) rfl rfl rfl (by exact fun _ _ h => h)) (ev_dep (j := 19) (by kernel_rfl) rfl rfl) (ev_dep (j := 26) (by kernel_rfl) rfl rfl) (fun _ _ h => h)) ?_
          refine And.intro (ob_move rfl (wt_dep (c := false) (b := false) (g := 11) rfl (by kernel_rfl) rfl rfl rfl (by exact fun _ _ h => h)) (ev_dep (j := 27) (by kernel_rfl) rfl rfl) (fun _ _ h => h)) ?_
          refine And.intro (ob_move rfl (wt_dep (c := true) (b := true) (g := 28) rfl (by kernel_rfl) rfl rfl rfl (by exact fun _ _ h => h)) (ev_far rfl rfl) (fun _ _ h => h)) ?_
          refine And.intro (ob_move rfl (wt_dep (c := true) (b := true) (g := 28) rfl (by kernel_rfl) rfl rfl rfl (by exact fun _ _ h => h)) (ev_far rfl rfl) (fun _ _ h => h)) ?_
          refine And.intro (ob_indexAddr rfl (wt_dep (c := true) (b := true) (g := 28) rfl (by kernel_rfl) rfl rfl rfl (by exact fun _ _ h => h)) (ev_dep (j := 29) (by kernel_rfl) rfl rfl) (ev_dep (j := 30) (by kernel_rfl) rfl rfl) (fun _ _ _ hx hy => ⟨_, by rw [hx, hy]; exact index1_any (k := k) Tryz.underlying22 (by kernel_rfl) adI hki _, rfl⟩)) ?_
          refine And.intro (ob_load rfl (wt_dep (c := true) (b := true) (g := 28) rfl (by kernel_rfl) rfl rfl rfl (by exact fun _ _ h => h)) (ev_dep (j := 31) (by kernel_rfl) rfl rfl) (fun w2 hb => run_load1 Tryz.underlying39 rfl ((hb.cell (World.block_lt_of_cell? w11 _ ecR)).trans ecR)) (fun _ _ => rfl)) ?_
          refine And.intro (ob_move rfl (wt_dep (c := true) (b := true) (g := 28) rfl (by kernel_rfl) rfl rfl rfl (by exact fun _ _ h => h)) (ev_far rfl rfl) (fun _ _ h => h)) ?_
          refine And.intro (ob_indexAddr rfl (wt_dep (c := true) (b := true) (g := 28) rfl (by kernel_rfl) rfl rfl rfl (by exact fun _ _ h => h)) (ev_dep (j := 32) (by kernel_rfl) rfl rfl) (ev_dep (j := 33) (by kernel_rfl) rfl rfl) (fun _ _ _ hx hy => ⟨_, by rw [hx, hy]; exact index3 (k := k) Tryz.underlying39 (by kernel_rfl) hkl _, rfl⟩)) ?_
          refine And.intro (ob_load rfl (wt_dep (c := true) (b := true) (g := 28) rfl (by kernel_rfl) rfl rfl rfl (by exact fun _ _ h => h)) (ev_dep (j := 34) (by kernel_rfl) rfl rfl) (fun w2 hb => load3 Tryz.underlying46 rfl (by kernel_rfl) ((hb.cell (World.block_lt_of_cell? w11 _ y0)).trans y0) ((hb.cell (World.block_lt_of_cell? w11 _ y1)).trans y1) ((hb.cell (World.block_lt_of_cell? w11 _ y2)).trans y2)) (fun _ _ => rfl)) ?_
          refine And.intro (ob_call1 rfl Tryz.func18 (by kernel_rfl) (wt_dep (c := true) (b := true) (g := 28) rfl (by kernel_rfl) rfl rfl rfl (by exact fun _ _ h => h)) (ev_dep (j := 35) (by kernel_rfl) rfl rfl) (fun w2 u0 hb h0 => by obtain rfl := h0; exact (one8_any _ 1 true _ (zy.below hb) HO1.out).mono fun e w3 h => RetV.pd h)) ?_
          refine And.intro (ob_pick (b := true) rfl (wt_dep (c := false) (b := false) (g := 11) rfl (by kernel_rfl) rfl rfl rfl (by exact fun _ _ h => h)) (ev_dep (j := 28) (by kernel_rfl) rfl rfl) (ev_dep (j := 36) (by kernel_rfl) rfl rfl) (fun _ _ h => h)) ?_
          refine And.intro (ob_pick (b := false) rfl (wt_dep (c := true) (b := true) (g := 8) rfl (by kernel_rfl) rfl rfl rfl (by exact fun _ _ h => h)) (ev_dep (j := 11) (by kernel_rfl) rfl rfl) (ev_dep (j := 37) (by kernel_rfl) rfl rfl) (fun _ _ h => h)) ?_
          refine And.intro (ob_pick (b := true) rfl (wt_none rfl) (ev_dep (j := 8) (by kernel_rfl) rfl rfl) (ev_dep (j := 38) (by kernel_rfl) rfl rfl) (fun _ _ h => h)) ?_
          refine And.intro (ob_move rfl (wt_none rfl) (ev_dep (j := 39) (by kernel_rfl) rfl rfl) (fun _ _ h => h)) ?_
          refine And.intro (ob_call0 rfl Tryz.func15 (by kernel_rfl) (wt_dep (c := true) (b := true) (g := 40) rfl (by kernel_rfl) rfl rfl rfl (by exact fun _ _ h => h)) (fun w2 hb => (works12_any _).mono fun e w3 h => RetV.pd h)) ?_
          refine And.intro (ob_pick (b := true) rfl (wt_none rfl) (ev_dep (j := 40) (by kernel_rfl) rfl rfl) (ev_dep (j := 41) (by kernel_rfl) rfl rfl) (fun _ _ h => h)) ?_
          refine And.intro (ob_assign rfl (wt_none rfl) (ev_dep (j := 42) (by kernel_rfl) rfl rfl) (fun _ _ h => h)) ?_
          trivial
        case done4 =>
          refine fun w41 hb41 v0 h0 v1 h1 v2 h2 v3 h3 v4 h4 v5 h5 v6 h6 v7 h7 v8 h8 v9 h9 v10 h10 v11 h11 v12 h12 v13 h13 v14 h14 v15 h15 v16 h16 v17 h17 v18 h18 v19 h19 v20 h20 v21 h21 v22 h22 v23 h23 v24 h24 v25 h25 v26 h26 v27 h27 v28 h28 v29 h29 v30 h30 v31 h31 v32 h32 v33 h33 v34 h34 v35 h35 v36 h36 v37 h37 v38 h38 v39 h39 v40 h40 v41 h41 v42 h42 v43 h43 b hbf => ?_
          obtain rfl := h0; obtain rfl := h1; obtain rfl := h2; obtain rfl := h3; obtain rfl := h4; obtain rfl := h5; obtain rfl := h6; obtain rfl := h7; obtain rfl := h8; obtain rfl := h9; obtain rfl := h10; obtain rfl := h11; obtain rfl := h12; obtain rfl := h13; obtain rfl := h14; obtain rfl := h15; obtain rfl := h16; obtain rfl := h17; obtain rfl := h18; obtain rfl := h19; obtain rfl := h20; obtain rfl := h21; obtain rfl := h22; obtain rfl := h23; obtain rfl := h24; obtain rfl := h25; obtain rfl := h26; obtain rfl := h27; obtain rfl := h28; obtain rfl := h29; obtain rfl := h30; obtain rfl := h31; obtain rfl := h32; obtain rfl := h33; obtain rfl := h34; obtain rfl := h35; obtain rfl := h36; obtain rfl := h37; obtain rfl := h38; obtain rfl := h39; obtain rfl := h40; obtain rfl := h41; obtain rfl := h42; obtain rfl := h43
          simp only [Act.put, List.setIfInBounds_toArray, List.set_cons_zero, List.set_cons_succ] at hbf
          subst hbf
          replace bb := bb.trans (hb41.mono bb.size)
          have hsz41 := bb.size
          refine ops_done ?_
          go_wp2
          go_ret
          exact ⟨rfl, bb⟩
set_option maxRecDepth 100000 in
theorem lifted (os : Os) (started : os.Started) (H : Type) (enc : TypeId × Value → H) :
    ReturnsInHanded {} Tryz.checked os 3 .any (Rows.matrixChecksSpec.pre6 enc Tryz.prog Tryz.f3 Rows.matrixChecksRow.domain false) (Rows.matrixChecksSpec.post enc Tryz.prog Tryz.f3 false true false false) := by
  refine returnsInHanded_of_change (C := Tryz.checked) own started (by kernel_rfl) Tryz.func3
    (ChangeSpec.witness6 (enc := enc) (C := Tryz.checked) false ⟨#[], #[.slice none 0 0, .slice none 0 0, .int .i64 0], []⟩ 8 (by kernel_rfl) (by kernel_rfl) (by kernel_rfl) (by kernel_rfl)) ?_
  intro W base args ds gs before hval0 hW hcnd _
  have hval : ∀ (j : Nat) t v, Tryz.f3.params[j]? = some t → args[j]? = some v → Value.okWide Tryz.prog W .any base t v := hval0
  have hW' := hW
  obtain ⟨p, q, hA0, hV, rfl, hfz, hnd⟩ := hW
  have hA : DataW.TrodAll enc Tryz.prog W 0 (fun _ => true) true Tryz.f3.params.toList args.toList ds p := hA0
  rw [Tryz.params3] at hA hval
  obtain ⟨v0, vs0, d0, ds0, p0, q0, hargs, rfl, rfl, t0, r0⟩ := trodAll_cons hA
  obtain ⟨v1, vs1, d1, ds1, p1, q1, rfl, rfl, rfl, t1, r1⟩ := trodAll_cons r0
  obtain ⟨v2, vs2, d2, ds2, p2, q2, rfl, rfl, rfl, t2, r2⟩ := trodAll_cons r1
  obtain ⟨rfl, rfl, rfl⟩ := trodAll_nil r2
  obtain rfl : args = #[v0, v1, v2] := by cases args; simp_all
  obtain ⟨rfl, rfl⟩ := trodVars_none hV
  have hs0 := arg_t Tryz.underlying22 (by kernel_rfl) Tryz.underlying39 Tryz.underlying46 (by kernel_rfl) (by kernel_rfl) Tryz.underlying44 (by kernel_rfl) Tryz.underlying4 Tryz.underlying42 Tryz.underlying42 Tryz.underlying76 cells_u (hval 0 22 v0 rfl rfl) t0
  have hs1 := arg_t Tryz.underlying22 (by kernel_rfl) Tryz.underlying39 Tryz.underlying46 (by kernel_rfl) (by kernel_rfl) Tryz.underlying44 (by kernel_rfl) Tryz.underlying4 Tryz.underlying42 Tryz.underlying42 Tryz.underlying76 cells_u (hval 1 22 v1 rfl rfl) t1
  obtain ⟨a2, rfl, hd2, hp2, wf2⟩ := open_int Tryz.underlying3 (hval 2 3 v2 rfl rfl) t2
  clear hA0 hval0
  simp only [List.append_nil] at hW'
  have hlt0 : ∀ x ∈ p0, x.block < W.heap.size := fun x hx => hW'.lt x (List.mem_append_left _ hx)
  have hlt1 : ∀ x ∈ p1, x.block < W.heap.size := fun x hx => hW'.lt x (List.mem_append_right _ (List.mem_append_left _ hx))
  have hlt2 : ∀ x ∈ p2, x.block < W.heap.size := fun x hx => hW'.lt x (List.mem_append_right _ (List.mem_append_right _ (hx)))
  refine (walk v0 v1 a2 W hs0 hs1 wf2).mono fun e W' ⟨he, hb⟩ => ?_
  subst he
  have s0 := Below.trod laidOut (by kernel_rfl) (of_decide_eq_true (by kernel_rfl)) t0 hb hlt0
  have s1 := Below.trod laidOut (by kernel_rfl) (of_decide_eq_true (by kernel_rfl)) t1 hb hlt1
  have s2 := Below.trod laidOut (by kernel_rfl) (of_decide_eq_true (by kernel_rfl)) t2 hb hlt2
  exact ⟨_, rfl, _, _, _, [] ++ [], _, [], hW', trodAll_cons_mk (shut_bool Tryz.underlying4 _) trodAll_mk0, trodAll_cons_mk s0 (trodAll_cons_mk s1 (trodAll_cons_mk s2 (trodAll_mk0))), rfl, hb.frame _, fun h => by cases h⟩
theorem over : Rows.matrixChecksRow.holds Tryz.pinned (OpenSpec.ofChange Rows.matrixChecksSpec) :=
  OpenClaim.holds_of_wide 3 Tryz.f3 rfl rfl rfl rfl rfl rfl rfl ⟨rfl, rfl, rfl, rfl, rfl⟩ rfl rfl rfl rfl rfl (by kernel_rfl) Tryz.func3 (by kernel_rfl)
    (of_decide_eq_true (by kernel_rfl)) (by unfold Func.isWrapper; first | (rw [if_pos (by decide +kernel)]; kernel_rfl) | (rw [if_neg (by decide +kernel)]; exact ⟨rfl, rfl⟩))
    (fun os started H enc _ => lifted os started H enc)
/-- The statement. -/
theorem proved : Rows.MatrixChecksSaid := over
end Go.Proofs.YtekpnbgchoccmaaGreat.matrixChecks
