/- The chapter's example of layer 11.
Is a row of fractions the document's? Condition: as it says.
The document's rows times a fraction. Condition: as it says.
Few: two rows of fractions out of an argument. Condition: as it says. -/
import Derived.Test.YtodpjmbclmlieaaGreatK5
namespace Go.Proofs.YtodpjmbclmlieaaGreat.rat
open Go.RowKit Go.Proofs.YtodpjmbclmlieaaGreat.num Go.Proofs.YtodpjmbclmlieaaGreat.mem Go.Proofs.YtodpjmbclmlieaaGreat.nat Go.Proofs.YtodpjmbclmlieaaGreat.txt Go.Proofs.YtodpjmbclmlieaaGreat.str Go.Proofs.YtodpjmbclmlieaaGreat.flow Go.Proofs.YtodpjmbclmlieaaGreat.whl
set_option linter.unusedVariables false
set_option maxHeartbeats 1600000 in
set_option maxRecDepth 100000 in
theorem works11_any (w : World) :
    Calls Tryz.prog 13 #[] w (RetV (.bool true) w) := by
  obtain ⟨D, hD⟩ : ∃ D, D = dotq [((1 : Int) : Rat), ((2 : Int) : Rat)] [((3 : Int) : Rat), ((4 : Int) : Rat)] := ⟨_, rfl⟩
  have HD := Lib.hid hD
  have HS : Hid (true = decide (D = ((11 : Int) : Rat))) := by show _ = _; rw [hD]; decide +kernel
  have HK : Hid ((1 : Int) = ((leadq [((0 : Int) : Rat), ((5 : Int) : Rat)] : Nat) : Int)) := by show _ = _; decide +kernel
  have l0 : lenQ ((0 : Int) : Rat) 1 := ⟨digs_len_le (k := 1) (by omega) (by decide +kernel), digs_len_le (k := 1) (by omega) (by decide +kernel)⟩
  have l1 : lenQ ((1 : Int) : Rat) 1 := ⟨digs_len_le (k := 1) (by omega) (by decide +kernel), digs_len_le (k := 1) (by omega) (by decide +kernel)⟩
  have l2 : lenQ ((2 : Int) : Rat) 1 := ⟨digs_len_le (k := 1) (by omega) (by decide +kernel), digs_len_le (k := 1) (by omega) (by decide +kernel)⟩
  have l3 : lenQ ((3 : Int) : Rat) 1 := ⟨digs_len_le (k := 1) (by omega) (by decide +kernel), digs_len_le (k := 1) (by omega) (by decide +kernel)⟩
  have l4 : lenQ ((4 : Int) : Rat) 1 := ⟨digs_len_le (k := 1) (by omega) (by decide +kernel), digs_len_le (k := 1) (by omega) (by decide +kernel)⟩
  have l5 : lenQ ((5 : Int) : Rat) 1 := ⟨digs_len_le (k := 1) (by omega) (by decide +kernel), digs_len_le (k := 1) (by omega) (by decide +kernel)⟩
  have l11 : lenQ ((11 : Int) : Rat) 1 := ⟨digs_len_le (k := 1) (by omega) (by decide +kernel), digs_len_le (k := 1) (by omega) (by decide +kernel)⟩
  have two_ : ∀ {a b : Rat}, lenQ a 1 → lenQ b 1 → ∀ x ∈ [a, b], lenQ x 3 := fun ha hb x hx => by rcases List.mem_cons.1 hx with rfl | hx; exact ha.mono (by omega); obtain rfl := List.mem_singleton.1 hx; exact hb.mono (by omega)
  have HL : Hid ([((1 : Int) : Rat), ((2 : Int) : Rat)].length ≤ 8 ∧ (∀ x ∈ [((1 : Int) : Rat), ((2 : Int) : Rat)], lenQ x 3) ∧ ∀ x ∈ [((3 : Int) : Rat), ((4 : Int) : Rat)], lenQ x 3) := ⟨by simp, two_ l1 l2, two_ l3 l4⟩
  have HR : Hid ([((0 : Int) : Rat), ((5 : Int) : Rat)].length ≤ 200 ∧ ∀ x ∈ [((0 : Int) : Rat), ((5 : Int) : Rat)], lenQ x 3) := ⟨by simp, two_ l0 l5⟩
  clear hD two_
  go_enter Tryz.func13, Tryz.ntmps13
  have bb : Below w.heap.size w w := Below.refl _ _
  have hsz0 := bb.size
  go_upto_region 1 with (fail)
  refine flowp 11 [pqn (((1 : Int) : Rat)), pqn (((2 : Int) : Rat)), psq [((1 : Int) : Rat), ((2 : Int) : Rat)], pqn (((3 : Int) : Rat)), pqn (((4 : Int) : Rat)), psq [((3 : Int) : Rat), ((4 : Int) : Rat)], pqe (D) 0, pqe (D) 0, pqn (D), Pd.eq (.int .i64 0), pn 28 #[.bool false, .slice none 0 0, .slice none 0 0] w.heap.size] (by kernel_rfl) ?ob1 ?done1
  case ob1 =>
    refine And.intro (ob_call1 rfl Tryz.func37 (by kernel_rfl) (wt_none rfl) (ev_const _) (fun w2 u0 hb h0 => by obtain rfl := h0; exact (of8_any 1 _ (by omega) (by omega)).mono fun e w3 h => RetQn.pd h.n)) ?_
    refine And.intro (ob_call1 rfl Tryz.func37 (by kernel_rfl) (wt_none rfl) (ev_const _) (fun w2 u0 hb h0 => by obtain rfl := h0; exact (of8_any 2 _ (by omega) (by omega)).mono fun e w3 h => RetQn.pd h.n)) ?_
    refine And.intro (ob_lit2 rfl (wt_none rfl) (ev_dep (j := 0) (by kernel_rfl) rfl rfl) (ev_dep (j := 1) (by kernel_rfl) rfl rfl) Tryz.underlying22 info_rat (fun _ _ h => h) (fun _ _ h => h) (fun _ _ h => h)) ?_
    refine And.intro (ob_call1 rfl Tryz.func37 (by kernel_rfl) (wt_none rfl) (ev_const _) (fun w2 u0 hb h0 => by obtain rfl := h0; exact (of8_any 3 _ (by omega) (by omega)).mono fun e w3 h => RetQn.pd h.n)) ?_
    refine And.intro (ob_call1 rfl Tryz.func37 (by kernel_rfl) (wt_none rfl) (ev_const _) (fun w2 u0 hb h0 => by obtain rfl := h0; exact (of8_any 4 _ (by omega) (by omega)).mono fun e w3 h => RetQn.pd h.n)) ?_
    refine And.intro (ob_lit2 rfl (wt_none rfl) (ev_dep (j := 3) (by kernel_rfl) rfl rfl) (ev_dep (j := 4) (by kernel_rfl) rfl rfl) Tryz.underlying22 info_rat (fun _ _ h => h) (fun _ _ h => h) (fun _ _ h => h)) ?_
    refine And.intro (ob_call2 rfl Tryz.func16 (by kernel_rfl) (wt_none rfl) (ev_dep (j := 2) (by kernel_rfl) rfl rfl) (ev_dep (j := 5) (by kernel_rfl) rfl rfl) (fun w2 u0 u1 hb h0 h1 => by exact (HD.out ▸ fdot_ok _ _ [((1 : Int) : Rat), ((2 : Int) : Rat)] [((3 : Int) : Rat), ((4 : Int) : Rat)] _ h0 h1 rfl HL.out).mono fun e w3 h => RetQE.pd h)) ?_
    refine And.intro (ob_move rfl (wt_none rfl) (ev_dep (j := 6) (by kernel_rfl) rfl rfl) (fun _ _ h => h)) ?_
    refine And.intro (ob_extract rfl (wt_none rfl) (ev_dep (j := 7) (by kernel_rfl) rfl rfl) (fun w2 u hu => by obtain ⟨v, rfl, q1⟩ := hu; exact ⟨v, rfl, q1⟩)) ?_
    refine And.intro (ob_extract rfl (wt_none rfl) (ev_dep (j := 7) (by kernel_rfl) rfl rfl) (fun w2 u hu => by obtain ⟨v, rfl, q1⟩ := hu; exact ⟨_, rfl, rfl⟩)) ?_
    refine And.intro (ob_alloc (z := .agg #[.bool false, .slice none 0 0, .slice none 0 0]) rfl rfl (fun _ => by kernel_rfl) (fun _ _ hB h => ⟨_, rfl, hB, h⟩)) ?_
    trivial
  case done1 =>
    refine fun w1 hb1 v0 h0 v1 h1 v2 h2 v3 h3 v4 h4 v5 h5 v6 h6 v7 h7 v8 h8 v9 h9 v10 h10 d10 b hbf => ?_
    obtain rfl := h9
    have q0 := h0
    have q1 := h1
    have q2 := h2
    have q3 := h3
    have q4 := h4
    have q5 := h5
    clear h6
    clear h7
    have q8 := h8
    obtain ⟨g1_10, rfl, hg10, B10⟩ := h10
    simp only [Act.put, List.setIfInBounds_toArray, List.set_cons_zero, List.set_cons_succ] at hbf
    subst hbf
    replace bb := bb.trans (hb1.mono bb.size)
    have hsz1 := bb.size
    have BA1 := B10
    obtain ⟨u8, t8, rfl, q8, d8⟩ := q8
    obtain ⟨Ad, cd, rfl, _⟩ := id q8
    obtain ⟨Dd, ed, rfl, _⟩ := id d8
    refine ops_store (i := 11) rfl rfl rfl rfl rfl rfl (cells := [.bool (ngB (D).num), .slice Ad (digs 4294967296 (D).num.natAbs).length cd, .slice Dd (digs 4294967296 (D).den).length ed]) rfl BA1 rfl (by kernel_rfl) (one3 rfl rfl rfl) fun w2 hg2 BN2 => ?_
    replace q8 := off q8 BA1 no_ints3 hg2
    replace d8 := off d8 BA1 no_ints3 hg2
    replace bb := bb.trans ((Below.refl _ _).grown hg2 bb.size (fun g hg => by injection hg with hg; omega))
    have hsz2 := bb.size
    have Bd : Blk w2 (g1_10) _ _ := BN2
    have kds := q8
    have kdd := d8
    have kdz : IsZ w2 (.agg #[.bool (ngB (D).num), .slice Ad (digs 4294967296 (D).num.natAbs).length cd]) ((D).num) := ⟨_, rfl, kds⟩
    have kd : IsQ w2 (.agg #[.bool (ngB (D).num), .slice Ad (digs 4294967296 (D).num.natAbs).length cd, .slice Dd (digs 4294967296 (D).den).length ed]) (D) := ⟨_, _, rfl, kds, kdd⟩
    refine ops_assign (i := 12) (.int .i64 0) rfl rfl rfl rfl rfl fun b hbf => ?_
    simp only [Act.put, List.setIfInBounds_toArray, List.set_cons_zero, List.set_cons_succ] at hbf
    subst hbf
    refine ops_done ?_
    go_upto_region 2 with (fail)
    refine flow 15 [Pd.eq (.int .i64 0), Pd.eq (.bool true), Pd.eq (.bool true), Pd.eq (.agg #[.bool (ngB (D).num), .slice Ad (digs 4294967296 (D).num.natAbs).length cd, .slice Dd (digs 4294967296 (D).den).length ed]), pqn (((11 : Int) : Rat)), Pd.eq (.bool true), Pd.eq (.bool true), Pd.eq (.bool true), pqn (((0 : Int) : Rat)), pqn (((5 : Int) : Rat)), psq [((0 : Int) : Rat), ((5 : Int) : Rat)], Pd.eq (.int .i64 1), Pd.eq (.bool true), Pd.eq (.bool true), Pd.eq (.bool true)] (by kernel_rfl) (by kernel_rfl) ?ob2 ?done2
    case ob2 =>
      refine And.intro (ob_move rfl (wt_none rfl) (ev_far rfl rfl) (fun _ _ h => h)) ?_
      refine And.intro (ob_bin rfl (wt_none rfl) (ev_dep (j := 0) (by kernel_rfl) rfl rfl) (ev_const _) (fun _ _ _ hx hy => ⟨.bool ((0 : Int) == 0), by rw [hx, hy]; exact bin_eql_int _ _ _ _ _, congrArg Value.bool (by decide)⟩)) ?_
      refine And.intro (ob_move rfl (wt_none rfl) (ev_dep (j := 1) (by kernel_rfl) rfl rfl) (fun _ _ h => h)) ?_
      refine And.intro (ob_load rfl (wt_dep (c := true) (b := true) (g := 2) rfl (by kernel_rfl) rfl rfl rfl (by exact fun _ _ h => h)) (ev_far rfl rfl) (fun w2 hb => run_loadAll Tryz.underlying28 rfl (by kernel_rfl) (Bd.drew.below hb)) (fun _ _ => rfl)) ?_
      refine And.intro (ob_call1 rfl Tryz.func37 (by kernel_rfl) (wt_dep (c := true) (b := true) (g := 2) rfl (by kernel_rfl) rfl rfl rfl (by exact fun _ _ h => h)) (ev_const _) (fun w2 u0 hb h0 => by obtain rfl := h0; exact (of8_any 11 _ (by omega) (by omega)).mono fun e w3 h => RetQn.pd h.n)) ?_
      refine And.intro (ob_call2 rfl Tryz.func38 (by kernel_rfl) (wt_dep (c := true) (b := true) (g := 2) rfl (by kernel_rfl) rfl rfl rfl (by exact fun _ _ h => h)) (ev_dep (j := 3) (by kernel_rfl) rfl rfl) (ev_dep (j := 4) (by kernel_rfl) rfl rfl) (fun w2 u0 u1 hb h0 h1 => by obtain rfl := h0; exact (same8_any _ _ D ((11 : Int) : Rat) true _ (kd.drew.below hb) h1 HS.out).mono fun e w3 h => RetV.pd h)) ?_
      refine And.intro (ob_pick (b := true) rfl (wt_none rfl) (ev_dep (j := 2) (by kernel_rfl) rfl rfl) (ev_dep (j := 5) (by kernel_rfl) rfl rfl) (fun _ _ h => h)) ?_
      refine And.intro (ob_move rfl (wt_none rfl) (ev_dep (j := 6) (by kernel_rfl) rfl rfl) (fun _ _ h => h)) ?_
      refine And.intro (ob_call1 rfl Tryz.func37 (by kernel_rfl) (wt_dep (c := true) (b := true) (g := 7) rfl (by kernel_rfl) rfl rfl rfl (by exact fun _ _ h => h)) (ev_const _) (fun w2 u0 hb h0 => by obtain rfl := h0; exact (of8_any 0 _ (by omega) (by omega)).mono fun e w3 h => RetQn.pd h.n)) ?_
      refine And.intro (ob_call1 rfl Tryz.func37 (by kernel_rfl) (wt_dep (c := true) (b := true) (g := 7) rfl (by kernel_rfl) rfl rfl rfl (by exact fun _ _ h => h)) (ev_const _) (fun w2 u0 hb h0 => by obtain rfl := h0; exact (of8_any 5 _ (by omega) (by omega)).mono fun e w3 h => RetQn.pd h.n)) ?_
      refine And.intro (ob_lit2 rfl (wt_dep (c := true) (b := true) (g := 7) rfl (by kernel_rfl) rfl rfl rfl (by exact fun _ _ h => h)) (ev_dep (j := 8) (by kernel_rfl) rfl rfl) (ev_dep (j := 9) (by kernel_rfl) rfl rfl) Tryz.underlying22 info_rat (fun _ _ h => h) (fun _ _ h => h) (fun _ _ h => h)) ?_
      refine And.intro (ob_call1 rfl Tryz.func20 (by kernel_rfl) (wt_dep (c := true) (b := true) (g := 7) rfl (by kernel_rfl) rfl rfl rfl (by exact fun _ _ h => h)) (ev_dep (j := 10) (by kernel_rfl) rfl rfl) (fun w2 u0 hb h0 => by exact (flead_any _ [((0 : Int) : Rat), ((5 : Int) : Rat)] 1 _ h0 HR.out HK.out).mono fun e w3 h => RetV.pd h)) ?_
      refine And.intro (ob_bin rfl (wt_dep (c := true) (b := true) (g := 7) rfl (by kernel_rfl) rfl rfl rfl (by exact fun _ _ h => h)) (ev_dep (j := 11) (by kernel_rfl) rfl rfl) (ev_const _) (fun _ _ _ hx hy => ⟨.bool ((1 : Int) == 1), by rw [hx, hy]; exact bin_eql_int _ _ _ _ _, congrArg Value.bool (by decide)⟩)) ?_
      refine And.intro (ob_pick (b := true) rfl (wt_none rfl) (ev_dep (j := 7) (by kernel_rfl) rfl rfl) (ev_dep (j := 12) (by kernel_rfl) rfl rfl) (fun _ _ h => h)) ?_
      refine And.intro (ob_assign rfl (wt_none rfl) (ev_dep (j := 13) (by kernel_rfl) rfl rfl) (fun _ _ h => h)) ?_
      trivial
    case done2 =>
      refine fun w3 hb3 v0 h0 v1 h1 v2 h2 v3 h3 v4 h4 v5 h5 v6 h6 v7 h7 v8 h8 v9 h9 v10 h10 v11 h11 v12 h12 v13 h13 v14 h14 b hbf => ?_
      obtain rfl := h0; obtain rfl := h1; obtain rfl := h2; obtain rfl := h3; obtain rfl := h5; obtain rfl := h6; obtain rfl := h7; obtain rfl := h11; obtain rfl := h12; obtain rfl := h13; obtain rfl := h14
      have q4 := h4
      have q8 := h8
      have q9 := h9
      have q10 := h10
      simp only [Act.put, List.setIfInBounds_toArray, List.set_cons_zero, List.set_cons_succ] at hbf
      subst hbf
      replace Bd := Bd.below hb3
      replace kds := kds.below hb3
      replace kdd := kdd.below hb3
      replace kdz := kdz.below hb3
      replace kd := kd.below hb3
      replace bb := bb.trans (hb3.mono bb.size)
      have hsz3 := bb.size
      refine any_done (by kernel_rfl) ?_
      go_wp2
      go_ret
      exact ⟨rfl, bb⟩
set_option maxHeartbeats 3200000 in
set_option maxRecDepth 100000 in
theorem is_any (a0 a1 : Value) (p q : List Rat) (t : Int) (w : World) (h0 : SlF .u64 4294967296 w a0 p) (h1 : SlF .i64 10000 w a1 q) (hl : ∀ x ∈ q, lenQ x 30000) (ht : t = if p = q then 1 else 0) :
    Calls Tryz.prog 9 #[a0, a1] w (RetV (.int .i64 t) w) := by
  have bb : Below w.heap.size w w := Below.refl _ _
  have sl0 := h0
  obtain ⟨A0, c0, rfl, hc0, hm0⟩ := h0.shape
  unfold maxLen at hm0
  have sl1 := h1
  obtain ⟨A1, c1, rfl, hc1, hm1⟩ := h1.shape
  unfold maxLen at hm1
  have HL := Lib.hid hl
  have HT := Lib.hid ht
  clear hl ht
  go_enter Tryz.func9, Tryz.ntmps9
  go_upto_region 1 with (fail)
  have hsz0 := bb.size
  by_cases he : p.length = q.length
  case neg =>
    have HW : Hid (t = 0) := by show _ = _; rw [HT.out, if_neg fun e => he (by rw [e])]
    have heb : (((p.length : Nat) : Int) == ((q.length : Nat) : Int)) = false := by rw [beq_eq_false_iff_ne]; omega
    go_wp2
    go_ret
    exact ⟨by rw [HW.out]; rfl, bb⟩
  have heb : (((p.length : Nat) : Int) == ((q.length : Nat) : Int)) = true := by rw [beq_iff_eq]; omega
  have HE := Lib.hid he
  clear he
  go_wp2
  go_loopw [5] (fun v5 wr => ∃ k : Nat, k ≤ p.length ∧ Hid (p.take k = q.take k) ∧ Below w.heap.size w wr ∧ v5 = .int .i64 (k : Int)) (fun v5 _ => p.length - (intOf v5).toNat)
  case atStart => exact ⟨0, by omega, rfl, bb, rfl⟩
  case round =>
    obtain ⟨k, hk, HA, hbw, rfl⟩ := hrel
    clear bb heb
    have bb := hbw
    clear hbw
    have hszr := bb.size
    by_cases hlt : k < p.length
    · have hlt2 : k < q.length := by have := HE.out; omega
      obtain ⟨x, hq0_⟩ : ∃ x, p[k]? = some x := ⟨_, List.getElem?_eq_getElem hlt⟩
      obtain ⟨g0_, o0_, ue0, te0, hA0_, _, e00, e01, e02, es0, ed0⟩ := (sl0.below bb).at_ hq0_
      subst hA0_
      have HQ0 := Lib.hid hq0_
      clear hq0_
      obtain ⟨Ae0, ce0, rfl, _⟩ := id es0
      obtain ⟨De0, ee0, rfl, _⟩ := id ed0
      have ke0 : IsQ wr (.agg #[.bool (ngB x.num), .slice Ae0 (digs 4294967296 x.num.natAbs).length ce0, .slice De0 (digs 4294967296 x.den).length ee0]) x := ⟨_, _, rfl, es0, ed0⟩
      obtain ⟨y, hq1_⟩ : ∃ y, q[k]? = some y := ⟨_, List.getElem?_eq_getElem hlt2⟩
      obtain ⟨g1_, o1_, ue1, te1, hA1_, _, e10, e11, e12, es1, ed1⟩ := (sl1.below bb).at_ hq1_
      subst hA1_
      have HQ1 := Lib.hid hq1_
      clear hq1_
      obtain ⟨Ae1, ce1, rfl, _⟩ := id es1
      obtain ⟨De1, ee1, rfl, _⟩ := id ed1
      have ke1 : IsP wr (.agg #[.bool (ngB y.num), .slice Ae1 (digs 10000 y.num.natAbs).length ce1, .slice De1 (digs 10000 y.den).length ee1]) y := ⟨_, _, rfl, es1, ed1⟩
      have ly : lenQ y 30000 := HL.out y (List.mem_of_getElem? HQ1.out)
      obtain ⟨u, hu⟩ : ∃ u, u = decide (x = y) := ⟨_, rfl⟩
      have HU := Lib.hid hu
      by_cases hxy : x = y
      · have HA2 : Hid (p.take (k + 1) = q.take (k + 1)) := by show _ = _; rw [take_snoc HQ0.out, take_snoc HQ1.out, HA.out, hxy]
        rw [decide_eq_true hxy] at hu
        subst hu
        clear hxy
        have sB := bb.size
        go_upto_region 6 with (fail)
        refine flow 11 [Pd.eq (.slice (some ⟨g0_, o0_, none⟩) p.length c0), Pd.eq (.int .i64 (k : Int)), Pd.eq (.pointer (some ⟨g0_, o0_ + k * 3, none⟩)), Pd.eq (.agg #[.bool (ngB x.num), .slice Ae0 (digs 4294967296 x.num.natAbs).length ce0, .slice De0 (digs 4294967296 x.den).length ee0]), Pd.eq (.slice (some ⟨g1_, o1_, none⟩) q.length c1), Pd.eq (.int .i64 (k : Int)), Pd.eq (.pointer (some ⟨g1_, o1_ + k * 3, none⟩)), Pd.eq (.agg #[.bool (ngB y.num), .slice Ae1 (digs 10000 y.num.natAbs).length ce1, .slice De1 (digs 10000 y.den).length ee1]), pq (y) wr.heap.size, Pd.eq (.bool true), Pd.eq (.bool false)] (by kernel_rfl) (by kernel_rfl) ?ob1 ?done1
        case ob1 =>
          refine And.intro (ob_move rfl (wt_none rfl) (ev_far rfl rfl) (fun _ _ h => h)) ?_
          refine And.intro (ob_move rfl (wt_none rfl) (ev_far rfl rfl) (fun _ _ h => h)) ?_
          refine And.intro (ob_indexAddr rfl (wt_none rfl) (ev_dep (j := 0) (by kernel_rfl) rfl rfl) (ev_dep (j := 1) (by kernel_rfl) rfl rfl) (fun _ _ _ hx hy => ⟨_, by rw [hx, hy]; exact index3 Tryz.underlying22 (by kernel_rfl) hlt _, rfl⟩)) ?_
          refine And.intro (ob_load rfl (wt_none rfl) (ev_dep (j := 2) (by kernel_rfl) rfl rfl) (fun w2 hb => load3 Tryz.underlying28 rfl (by kernel_rfl) ((hb.cell (World.block_lt_of_cell? wr _ e00)).trans e00) ((hb.cell (World.block_lt_of_cell? wr _ e01)).trans e01) ((hb.cell (World.block_lt_of_cell? wr _ e02)).trans e02)) (fun _ _ => rfl)) ?_
          refine And.intro (ob_move rfl (wt_none rfl) (ev_far rfl rfl) (fun _ _ h => h)) ?_
          refine And.intro (ob_move rfl (wt_none rfl) (ev_far rfl rfl) (fun _ _ h => h)) ?_
          refine And.intro (ob_indexAddr rfl (wt_none rfl) (ev_dep (j := 4) (by kernel_rfl) rfl rfl) (ev_dep (j := 5) (by kernel_rfl) rfl rfl) (fun _ _ _ hx hy => ⟨_, by rw [hx, hy]; exact index3 Tryz.underlying29 (by kernel_rfl) hlt2 _, rfl⟩)) ?_
          refine And.intro (ob_load rfl (wt_none rfl) (ev_dep (j := 6) (by kernel_rfl) rfl rfl) (fun w2 hb => load3 Tryz.underlying45 rfl (by kernel_rfl) ((hb.cell (World.block_lt_of_cell? wr _ e10)).trans e10) ((hb.cell (World.block_lt_of_cell? wr _ e11)).trans e11) ((hb.cell (World.block_lt_of_cell? wr _ e12)).trans e12)) (fun _ _ => rfl)) ?_
          refine And.intro (ob_call1 rfl Tryz.func23 (by kernel_rfl) (wt_none rfl) (ev_dep (j := 7) (by kernel_rfl) rfl rfl) (fun w2 u0 hb h0 => by obtain rfl := h0; exact (qback_any _ y _ (ke1.drew.below hb) ly).mono fun e w3 h => RetQ.pd h hb.size)) ?_
          refine And.intro (ob_call2 rfl Tryz.func22 (by kernel_rfl) (wt_none rfl) (ev_dep (j := 3) (by kernel_rfl) rfl rfl) (ev_dep (j := 8) (by kernel_rfl) rfl rfl) (fun w2 u0 u1 hb h0 h1 => by obtain rfl := h0; exact (qsame_any _ _ x y true _ (ke0.drew.below hb) h1.1 HU.out).mono fun e w3 h => RetV.pd h)) ?_
          refine And.intro (ob_un rfl (wt_none rfl) (ev_dep (j := 9) (by kernel_rfl) rfl rfl) (fun _ => un_not _ _) (fun _ => rfl)) ?_
          trivial
        case done1 =>
          refine fun w2 hb2 v0 h0 v1 h1 v2 h2 v3 h3 v4 h4 v5 h5 v6 h6 v7 h7 v8 h8 v9 h9 v10 h10 b hbf => ?_
          obtain rfl := h0; obtain rfl := h1; obtain rfl := h2; obtain rfl := h3; obtain rfl := h4; obtain rfl := h5; obtain rfl := h6; obtain rfl := h7; obtain rfl := h9; obtain rfl := h10
          obtain ⟨q8, f8⟩ := h8
          simp only [Act.put, List.setIfInBounds_toArray, List.set_cons_zero, List.set_cons_succ] at hbf
          subst hbf
          replace bb := bb.trans (hb2.mono bb.size)
          have hsz2 := bb.size
          have s_8 := sB
          refine any_done (by kernel_rfl) ?_
          go_wp2
          go_roundw
          case rel => exact ⟨k + 1, by omega, HA2, bb, by go_num⟩
          case measure => simp [intOf]; omega
      · have HW : Hid (t = 0) := by
          show _ = _
          rw [HT.out, if_neg]
          intro e
          have h0 := HQ0.out
          rw [e, HQ1.out] at h0
          exact hxy (Option.some.inj h0).symm
        rw [decide_eq_false hxy] at hu
        subst hu
        clear hxy
        have sB := bb.size
        go_upto_region 6 with (fail)
        refine flow 11 [Pd.eq (.slice (some ⟨g0_, o0_, none⟩) p.length c0), Pd.eq (.int .i64 (k : Int)), Pd.eq (.pointer (some ⟨g0_, o0_ + k * 3, none⟩)), Pd.eq (.agg #[.bool (ngB x.num), .slice Ae0 (digs 4294967296 x.num.natAbs).length ce0, .slice De0 (digs 4294967296 x.den).length ee0]), Pd.eq (.slice (some ⟨g1_, o1_, none⟩) q.length c1), Pd.eq (.int .i64 (k : Int)), Pd.eq (.pointer (some ⟨g1_, o1_ + k * 3, none⟩)), Pd.eq (.agg #[.bool (ngB y.num), .slice Ae1 (digs 10000 y.num.natAbs).length ce1, .slice De1 (digs 10000 y.den).length ee1]), pq (y) wr.heap.size, Pd.eq (.bool false), Pd.eq (.bool true)] (by kernel_rfl) (by kernel_rfl) ?ob2 ?done2
        case ob2 =>
          refine And.intro (ob_move rfl (wt_none rfl) (ev_far rfl rfl) (fun _ _ h => h)) ?_
          refine And.intro (ob_move rfl (wt_none rfl) (ev_far rfl rfl) (fun _ _ h => h)) ?_
          refine And.intro (ob_indexAddr rfl (wt_none rfl) (ev_dep (j := 0) (by kernel_rfl) rfl rfl) (ev_dep (j := 1) (by kernel_rfl) rfl rfl) (fun _ _ _ hx hy => ⟨_, by rw [hx, hy]; exact index3 Tryz.underlying22 (by kernel_rfl) hlt _, rfl⟩)) ?_
          refine And.intro (ob_load rfl (wt_none rfl) (ev_dep (j := 2) (by kernel_rfl) rfl rfl) (fun w2 hb => load3 Tryz.underlying28 rfl (by kernel_rfl) ((hb.cell (World.block_lt_of_cell? wr _ e00)).trans e00) ((hb.cell (World.block_lt_of_cell? wr _ e01)).trans e01) ((hb.cell (World.block_lt_of_cell? wr _ e02)).trans e02)) (fun _ _ => rfl)) ?_
          refine And.intro (ob_move rfl (wt_none rfl) (ev_far rfl rfl) (fun _ _ h => h)) ?_
          refine And.intro (ob_move rfl (wt_none rfl) (ev_far rfl rfl) (fun _ _ h => h)) ?_
          refine And.intro (ob_indexAddr rfl (wt_none rfl) (ev_dep (j := 4) (by kernel_rfl) rfl rfl) (ev_dep (j := 5) (by kernel_rfl) rfl rfl) (fun _ _ _ hx hy => ⟨_, by rw [hx, hy]; exact index3 Tryz.underlying29 (by kernel_rfl) hlt2 _, rfl⟩)) ?_
          refine And.intro (ob_load rfl (wt_none rfl) (ev_dep (j := 6) (by kernel_rfl) rfl rfl) (fun w2 hb => load3 Tryz.underlying45 rfl (by kernel_rfl) ((hb.cell (World.block_lt_of_cell? wr _ e10)).trans e10) ((hb.cell (World.block_lt_of_cell? wr _ e11)).trans e11) ((hb.cell (World.block_lt_of_cell? wr _ e12)).trans e12)) (fun _ _ => rfl)) ?_
          refine And.intro (ob_call1 rfl Tryz.func23 (by kernel_rfl) (wt_none rfl) (ev_dep (j := 7) (by kernel_rfl) rfl rfl) (fun w2 u0 hb h0 => by obtain rfl := h0; exact (qback_any _ y _ (ke1.drew.below hb) ly).mono fun e w3 h => RetQ.pd h hb.size)) ?_
          refine And.intro (ob_call2 rfl Tryz.func22 (by kernel_rfl) (wt_none rfl) (ev_dep (j := 3) (by kernel_rfl) rfl rfl) (ev_dep (j := 8) (by kernel_rfl) rfl rfl) (fun w2 u0 u1 hb h0 h1 => by obtain rfl := h0; exact (qsame_any _ _ x y false _ (ke0.drew.below hb) h1.1 HU.out).mono fun e w3 h => RetV.pd h)) ?_
          refine And.intro (ob_un rfl (wt_none rfl) (ev_dep (j := 9) (by kernel_rfl) rfl rfl) (fun _ => un_not _ _) (fun _ => rfl)) ?_
          trivial
        case done2 =>
          refine fun w2 hb2 v0 h0 v1 h1 v2 h2 v3 h3 v4 h4 v5 h5 v6 h6 v7 h7 v8 h8 v9 h9 v10 h10 b hbf => ?_
          obtain rfl := h0; obtain rfl := h1; obtain rfl := h2; obtain rfl := h3; obtain rfl := h4; obtain rfl := h5; obtain rfl := h6; obtain rfl := h7; obtain rfl := h9; obtain rfl := h10
          obtain ⟨q8, f8⟩ := h8
          simp only [Act.put, List.setIfInBounds_toArray, List.set_cons_zero, List.set_cons_succ] at hbf
          subst hbf
          replace bb := bb.trans (hb2.mono bb.size)
          have hsz2 := bb.size
          have s_8 := sB
          refine any_done (by kernel_rfl) ?_
          go_wp2
          go_ret
          exact ⟨by rw [HW.out]; rfl, bb⟩
    · have HW : Hid (t = 1) := by
        show _ = _
        rw [HT.out, if_pos]
        have := HA.out
        rwa [List.take_of_length_le (by omega), List.take_of_length_le (by have := HE.out; omega)] at this
      go_wp2
      go_ret
      exact ⟨by rw [HW.out]; rfl, bb⟩
set_option linter.unusedSimpArgs false
set_option maxHeartbeats 3200000 in
set_option maxRecDepth 100000 in
theorem rscale_any (a0 a1 : Value) (p : List Rat) (K : Rat) (w : World) (h0 : SlF .i64 10000 w a0 p) (h1 : IsP w a1 K) (hl : (scaleq p K).length ≤ p.length ∧ p.length ≤ 1000000 ∧ (∀ x ∈ p, lenQ x 10000) ∧ lenQ K 10000) :
    Calls Tryz.prog 11 #[a0, a1] w (RetSlV .i64 10000 (scaleq p K) w) := by
  obtain ⟨u1, t1, rfl, s1, r1⟩ := h1
  obtain ⟨A1, c1, rfl, _⟩ := id s1
  obtain ⟨D1, e1, rfl, _⟩ := id r1
  have sl0 := h0
  obtain ⟨A0, c0, rfl, hc0, hm0⟩ := h0.shape
  unfold maxLen at hm0
  have HLE := Lib.hid hl
  clear hl
  go_enter Tryz.func11, Tryz.ntmps11
  go_upto_region 1 with (fail)
  obtain ⟨wx, hwx, bb, B1, hsz⟩ := vars1 w 45 #[.bool (ngB (K).num), .slice A1 (digs 10000 (K).num.natAbs).length c1, .slice D1 (digs 10000 (K).den).length e1]
  rw [hwx]
  clear hwx
  have k1s := s1.below bb
  have k1d := r1.below bb
  have k1z : IsR wx (.agg #[.bool (ngB (K).num), .slice A1 (digs 10000 (K).num.natAbs).length c1]) (K).num := ⟨_, rfl, k1s⟩
  have k1 : IsP wx (.agg #[.bool (ngB (K).num), .slice A1 (digs 10000 (K).num.natAbs).length c1, .slice D1 (digs 10000 (K).den).length e1]) (K) := ⟨_, _, rfl, k1s, k1d⟩
  have hsz0 := bb.size
  go_wp2
  go_loopw [5, 6] (fun v5 v6 wr => ∃ (k : Nat) (ps : List Elt), k ≤ p.length ∧ Hid (ps.map (·.1) = (scaleq p K).take k) ∧ RowF 45 wr wx.heap.size v5 ps ∧ FarF .i64 10000 wr v5 ps ∧ Below wx.heap.size wx wr ∧ v6 = .int .i64 (k : Int)) (fun _ v6 _ => p.length - (intOf v6).toNat)
  case atStart => exact ⟨0, [], by omega, rfl, rowF_lit0 _ _ _ (Nat.le_refl _), FarF.nil _ _ _ _, below_alloc (Nat.le_refl _) _, rfl⟩
  case round =>
    obtain ⟨k, ps, hk, HP, hR, hF, hby, rfl⟩ := hrel
    have bw := bb.trans (hby.mono bb.size)
    clear bb
    have bb := bw
    clear bw
    replace B1 := B1.below hby
    replace k1s := k1s.below hby
    replace k1d := k1d.below hby
    replace k1z := k1z.below hby
    replace k1 := k1.below hby
    have hszr := bb.size
    by_cases hlt : k < p.length
    · obtain ⟨x, hq0_⟩ : ∃ x, p[k]? = some x := ⟨_, List.getElem?_eq_getElem hlt⟩
      obtain ⟨g0_, o0_, ue0, te0, hA0_, _, e00, e01, e02, es0, ed0⟩ := (sl0.below bb).at_ hq0_
      subst hA0_
      have HQ0 := Lib.hid hq0_
      clear hq0_
      obtain ⟨Ae0, ce0, rfl, _⟩ := id es0
      obtain ⟨De0, ee0, rfl, _⟩ := id ed0
      have ke0 : IsP wr (.agg #[.bool (ngB x.num), .slice Ae0 (digs 10000 x.num.natAbs).length ce0, .slice De0 (digs 10000 x.den).length ee0]) x := ⟨_, _, rfl, es0, ed0⟩
      have lx : lenQ x 10000 := HLE.out.2.2.1 x (List.mem_of_getElem? HQ0.out)
      have lK : lenQ K 10000 := HLE.out.2.2.2
      have nR := hR.under
      obtain ⟨AR, cR, hAR, _⟩ := (hR.sl hF).shape
      subst hAR
      have hszy := hby.size
      have HL8 : Hid (ps.length ≤ 1000000000) := by
        have h1 := congrArg List.length HP.out
        rw [List.length_map, List.length_take] at h1
        show _ ≤ _
        have := HLE.out.1
        have := HLE.out.2.1
        omega
      have sB := bb.size
      go_upto_region 5 with (fail)
      refine flow 8 [Pd.eq (.slice AR (ps.map (·.1)).length cR), Pd.eq (.slice (some ⟨g0_, o0_, none⟩) p.length c0), Pd.eq (.int .i64 (k : Int)), Pd.eq (.pointer (some ⟨g0_, o0_ + k * 3, none⟩)), Pd.eq (.agg #[.bool (ngB x.num), .slice Ae0 (digs 10000 x.num.natAbs).length ce0, .slice De0 (digs 10000 x.den).length ee0]), Pd.eq (.agg #[.bool (ngB (K).num), .slice A1 (digs 10000 (K).num.natAbs).length c1, .slice D1 (digs 10000 (K).den).length e1]), ppf ((x * K)) wr.heap.size, pone (ppf (x * K) wr.heap.size)] (by kernel_rfl) (by kernel_rfl) ?ob1 ?done1
      case ob1 =>
        refine And.intro (ob_move rfl (wt_none rfl) (ev_far rfl rfl) (fun _ _ h => h)) ?_
        refine And.intro (ob_move rfl (wt_none rfl) (ev_far rfl rfl) (fun _ _ h => h)) ?_
        refine And.intro (ob_move rfl (wt_none rfl) (ev_far rfl rfl) (fun _ _ h => h)) ?_
        refine And.intro (ob_indexAddr rfl (wt_none rfl) (ev_dep (j := 1) (by kernel_rfl) rfl rfl) (ev_dep (j := 2) (by kernel_rfl) rfl rfl) (fun _ _ _ hx hy => ⟨_, by rw [hx, hy]; exact index3 Tryz.underlying29 (by kernel_rfl) hlt _, rfl⟩)) ?_
        refine And.intro (ob_load rfl (wt_none rfl) (ev_dep (j := 3) (by kernel_rfl) rfl rfl) (fun w2 hb => load3 Tryz.underlying45 rfl (by kernel_rfl) ((hb.cell (World.block_lt_of_cell? wr _ e00)).trans e00) ((hb.cell (World.block_lt_of_cell? wr _ e01)).trans e01) ((hb.cell (World.block_lt_of_cell? wr _ e02)).trans e02)) (fun _ _ => rfl)) ?_
        refine And.intro (ob_load rfl (wt_none rfl) (ev_far rfl rfl) (fun w2 hb => run_loadAll Tryz.underlying45 rfl (by kernel_rfl) (B1.drew.below hb)) (fun _ _ => rfl)) ?_
        refine And.intro (ob_call2 rfl Tryz.func36 (by kernel_rfl) (wt_none rfl) (ev_dep (j := 4) (by kernel_rfl) rfl rfl) (ev_dep (j := 5) (by kernel_rfl) rfl rfl) (fun w2 u0 u1 hb h0 h1 => by obtain rfl := h0; obtain rfl := h1; exact (qmul_any _ x _ K _ (ke0.drew.below hb) (k1.drew.below hb) lx lK).mono fun e w3 h => RetPF.pdf h hb.size)) ?_
        refine And.intro (ob_build_q (φ := ppf (x * K) wr.heap.size) rfl rfl (ev_dep (j := 6) (by kernel_rfl) rfl rfl) Tryz.underlying29 info_q (fun w v h => ⟨h, by obtain ⟨⟨u, t, rfl, hu, ht⟩, _⟩ := h; obtain ⟨_, _, rfl, _⟩ := id hu; obtain ⟨_, _, rfl, _⟩ := id ht; exact ⟨_, _, _, rfl, rfl, rfl, rfl⟩⟩) (fun _ _ h => h)) ?_
        trivial
      case done1 =>
        refine fun w2 hb2 v0 h0 v1 h1 v2 h2 v3 h3 v4 h4 v5 h5 v6 h6 v7 h7 b hbf => ?_
        obtain rfl := h0; obtain rfl := h1; obtain rfl := h2; obtain rfl := h3; obtain rfl := h4; obtain rfl := h5
        obtain ⟨q6, f6⟩ := h6
        obtain ⟨g7_, x7, y7, z7, rfl, c70, c71, c72, K7⟩ := h7
        simp only [Act.put, List.setIfInBounds_toArray, List.set_cons_zero, List.set_cons_succ] at hbf
        subst hbf
        replace B1 := B1.below hb2
        replace k1s := k1s.below hb2
        replace k1d := k1d.below hb2
        replace k1z := k1z.below hb2
        replace k1 := k1.below hb2
        replace hR := hR.below hb2
        replace hF := hF.below hb2
        replace bb := bb.trans (hb2.mono bb.size)
        have hsz2 := bb.size
        replace hby := hby.trans (hb2.mono hby.size)
        have s_6 := sB
        have hszB := hby.size
        obtain ⟨⟨uE, tE, eE, sE, dE⟩, fE⟩ := K7
        obtain ⟨rfl, rfl, rfl⟩ : x7 = .bool (ngB (x * K).num) ∧ y7 = uE ∧ z7 = tE := by injection eE with eE; simpa using eE
        clear eE
        obtain ⟨AE, cE, rfl, _⟩ := id sE
        obtain ⟨DE, rE, rfl, _⟩ := id dE
        refine any_append_q (i := 8) (.tmp 14) (.tmp 21) (by kernel_rfl) rfl rfl rfl Tryz.underlying29 info_q (p := (x * K, .slice AE (digs 10000 (x * K).num.natAbs).length cE, .slice DE (digs 10000 (x * K).den).length rE)) (ps := ps) rfl hR rfl c70 c71 c72 rfl rfl HL8.out hszB fun v8 w8 b8 row8 bb8 HK8 hb8 => ?_
        simp only [Act.put, List.setIfInBounds_toArray, List.set_cons_zero, List.set_cons_succ] at hb8
        subst hb8
        have EC : IsE .i64 10000 w2 ((x * K, .slice AE (digs 10000 (x * K).num.natAbs).length cE, .slice DE (digs 10000 (x * K).den).length rE) : Elt) := ⟨sE, dE⟩
        have F8 := hF.snoc HK8.out.1 EC ((fE _ _ _ rfl).1.far nR) ((fE _ _ _ rfl).2.far nR)
        clear HK8 EC fE
        refine any_assign (i := 9) (v8) (by kernel_rfl) rfl rfl rfl rfl rfl fun b hbf => ?_
        simp only [Act.put, List.setIfInBounds_toArray, List.set_cons_zero, List.set_cons_succ] at hbf
        subst hbf
        refine any_done (by kernel_rfl) ?_
        have HP8 : Hid ((ps ++ [((x * K, .slice AE (digs 10000 (x * K).num.natAbs).length cE, .slice DE (digs 10000 (x * K).den).length rE) : Elt)]).map (·.1) = (scaleq p K).take (k + 1)) := by
          show _ = _
          rw [List.map_append, HP.out, take_snoc (show (scaleq p K)[k]? = some (x * K) from by rw [scaleq, List.getElem?_map, HQ0.out]; rfl)]
          rfl
        have b8 := hby.trans bb8
        clear hR hF HP
        go_wp2
        go_roundw
        case rel => exact ⟨k + 1, _, by omega, HP8, row8, F8, b8, by go_num⟩
        case measure => simp [intOf]; omega
    · have HPE : Hid (SlF .i64 10000 wr u5 (scaleq p K)) := by
        have h := hR.sl hF
        rw [HP.out, List.take_of_length_le (by have := HLE.out.1; omega)] at h
        exact h
      clear hR hF HP
      go_wp2
      go_ret
      exact ⟨_, rfl, HPE.out, bb⟩
set_option maxHeartbeats 3200000 in
set_option maxRecDepth 100000 in
theorem rless_any (a0 a1 a2 : Value) (p : List Rat) (K : Rat) (q : List Rat) (w : World) (h0 : SlF .i64 10000 w a0 p) (h1 : IsP w a1 K) (h2 : SlF .i64 10000 w a2 q) (he : p.length = q.length) (hl : (lessq p K q).length ≤ p.length ∧ p.length ≤ 1000000 ∧ (∀ x ∈ p, lenQ x 2000) ∧ (∀ x ∈ q, lenQ x 2000) ∧ lenQ K 2000) :
    Calls Tryz.prog 14 #[a0, a1, a2] w (RetSlV .i64 10000 (lessq p K q) w) := by
  obtain ⟨u1, t1, rfl, s1, r1⟩ := h1
  obtain ⟨A1, c1, rfl, _⟩ := id s1
  obtain ⟨D1, e1, rfl, _⟩ := id r1
  have sl0 := h0
  obtain ⟨A0, c0, rfl, hc0, hm0⟩ := h0.shape
  unfold maxLen at hm0
  have sl2 := h2
  obtain ⟨A2, c2, rfl, hc2, hm2⟩ := h2.shape
  unfold maxLen at hm2
  have HLE := Lib.hid hl
  clear hl
  have HE := Lib.hid he
  clear he
  go_enter Tryz.func14, Tryz.ntmps14
  go_upto_region 1 with (fail)
  obtain ⟨wx, hwx, bb, B1, hsz⟩ := vars1 w 45 #[.bool (ngB (K).num), .slice A1 (digs 10000 (K).num.natAbs).length c1, .slice D1 (digs 10000 (K).den).length e1]
  rw [hwx]
  clear hwx
  have k1s := s1.below bb
  have k1d := r1.below bb
  have k1z : IsR wx (.agg #[.bool (ngB (K).num), .slice A1 (digs 10000 (K).num.natAbs).length c1]) (K).num := ⟨_, rfl, k1s⟩
  have k1 : IsP wx (.agg #[.bool (ngB (K).num), .slice A1 (digs 10000 (K).num.natAbs).length c1, .slice D1 (digs 10000 (K).den).length e1]) (K) := ⟨_, _, rfl, k1s, k1d⟩
  have hsz0 := bb.size
  go_wp2
  go_loopw [7, 8] (fun v7 v8 wr => ∃ (k : Nat) (ps : List Elt), k ≤ p.length ∧ Hid (ps.map (·.1) = (lessq p K q).take k) ∧ RowF 45 wr wx.heap.size v7 ps ∧ FarF .i64 10000 wr v7 ps ∧ Below wx.heap.size wx wr ∧ v8 = .int .i64 (k : Int)) (fun _ v8 _ => p.length - (intOf v8).toNat)
  case atStart => exact ⟨0, [], by omega, rfl, rowF_lit0 _ _ _ (Nat.le_refl _), FarF.nil _ _ _ _, below_alloc (Nat.le_refl _) _, rfl⟩
  case round =>
    obtain ⟨k, ps, hk, HP, hR, hF, hby, rfl⟩ := hrel
    have bw := bb.trans (hby.mono bb.size)
    clear bb
    have bb := bw
    clear bw
    replace B1 := B1.below hby
    replace k1s := k1s.below hby
    replace k1d := k1d.below hby
    replace k1z := k1z.below hby
    replace k1 := k1.below hby
    have hszr := bb.size
    by_cases hlt : k < p.length
    · obtain ⟨x, hq0_⟩ : ∃ x, p[k]? = some x := ⟨_, List.getElem?_eq_getElem hlt⟩
      obtain ⟨g0_, o0_, ue0, te0, hA0_, _, e00, e01, e02, es0, ed0⟩ := (sl0.below bb).at_ hq0_
      subst hA0_
      have HQ0 := Lib.hid hq0_
      clear hq0_
      obtain ⟨Ae0, ce0, rfl, _⟩ := id es0
      obtain ⟨De0, ee0, rfl, _⟩ := id ed0
      have ke0 : IsP wr (.agg #[.bool (ngB x.num), .slice Ae0 (digs 10000 x.num.natAbs).length ce0, .slice De0 (digs 10000 x.den).length ee0]) x := ⟨_, _, rfl, es0, ed0⟩
      have hlt2 : k < q.length := by have := HE.out; omega
      obtain ⟨y, hq2_⟩ : ∃ y, q[k]? = some y := ⟨_, List.getElem?_eq_getElem hlt2⟩
      obtain ⟨g2_, o2_, ue2, te2, hA2_, _, e20, e21, e22, es2, ed2⟩ := (sl2.below bb).at_ hq2_
      subst hA2_
      have HQ2 := Lib.hid hq2_
      clear hq2_
      obtain ⟨Ae2, ce2, rfl, _⟩ := id es2
      obtain ⟨De2, ee2, rfl, _⟩ := id ed2
      have ke2 : IsP wr (.agg #[.bool (ngB y.num), .slice Ae2 (digs 10000 y.num.natAbs).length ce2, .slice De2 (digs 10000 y.den).length ee2]) y := ⟨_, _, rfl, es2, ed2⟩
      have lx : lenQ x 2000 := HLE.out.2.2.1 x (List.mem_of_getElem? HQ0.out)
      have ly : lenQ y 2000 := HLE.out.2.2.2.1 y (List.mem_of_getElem? HQ2.out)
      have lK : lenQ K 2000 := HLE.out.2.2.2.2
      have lKy : lenQ (K * y) 5000 := (lenQ_mul lK ly).mono (by decide)
      have nR := hR.under
      obtain ⟨AR, cR, hAR, _⟩ := (hR.sl hF).shape
      subst hAR
      have hszy := hby.size
      have HL8 : Hid (ps.length ≤ 1000000000) := by
        have h1 := congrArg List.length HP.out
        rw [List.length_map, List.length_take] at h1
        show _ ≤ _
        have := HLE.out.1
        have := HLE.out.2.1
        omega
      have sB := bb.size
      go_upto_region 5 with (fail)
      refine flow 13 [Pd.eq (.slice AR (ps.map (·.1)).length cR), Pd.eq (.slice (some ⟨g0_, o0_, none⟩) p.length c0), Pd.eq (.int .i64 (k : Int)), Pd.eq (.pointer (some ⟨g0_, o0_ + k * 3, none⟩)), Pd.eq (.agg #[.bool (ngB x.num), .slice Ae0 (digs 10000 x.num.natAbs).length ce0, .slice De0 (digs 10000 x.den).length ee0]), Pd.eq (.agg #[.bool (ngB (K).num), .slice A1 (digs 10000 (K).num.natAbs).length c1, .slice D1 (digs 10000 (K).den).length e1]), Pd.eq (.slice (some ⟨g2_, o2_, none⟩) q.length c2), Pd.eq (.int .i64 (k : Int)), Pd.eq (.pointer (some ⟨g2_, o2_ + k * 3, none⟩)), Pd.eq (.agg #[.bool (ngB y.num), .slice Ae2 (digs 10000 y.num.natAbs).length ce2, .slice De2 (digs 10000 y.den).length ee2]), pp ((K * y)), ppf ((x - K * y)) wr.heap.size, pone (ppf (x - K * y) wr.heap.size)] (by kernel_rfl) (by kernel_rfl) ?ob2 ?done2
      case ob2 =>
        refine And.intro (ob_move rfl (wt_none rfl) (ev_far rfl rfl) (fun _ _ h => h)) ?_
        refine And.intro (ob_move rfl (wt_none rfl) (ev_far rfl rfl) (fun _ _ h => h)) ?_
        refine And.intro (ob_move rfl (wt_none rfl) (ev_far rfl rfl) (fun _ _ h => h)) ?_
        refine And.intro (ob_indexAddr rfl (wt_none rfl) (ev_dep (j := 1) (by kernel_rfl) rfl rfl) (ev_dep (j := 2) (by kernel_rfl) rfl rfl) (fun _ _ _ hx hy => ⟨_, by rw [hx, hy]; exact index3 Tryz.underlying29 (by kernel_rfl) hlt _, rfl⟩)) ?_
        refine And.intro (ob_load rfl (wt_none rfl) (ev_dep (j := 3) (by kernel_rfl) rfl rfl) (fun w2 hb => load3 Tryz.underlying45 rfl (by kernel_rfl) ((hb.cell (World.block_lt_of_cell? wr _ e00)).trans e00) ((hb.cell (World.block_lt_of_cell? wr _ e01)).trans e01) ((hb.cell (World.block_lt_of_cell? wr _ e02)).trans e02)) (fun _ _ => rfl)) ?_
        refine And.intro (ob_load rfl (wt_none rfl) (ev_far rfl rfl) (fun w2 hb => run_loadAll Tryz.underlying45 rfl (by kernel_rfl) (B1.drew.below hb)) (fun _ _ => rfl)) ?_
        refine And.intro (ob_move rfl (wt_none rfl) (ev_far rfl rfl) (fun _ _ h => h)) ?_
        refine And.intro (ob_move rfl (wt_none rfl) (ev_far rfl rfl) (fun _ _ h => h)) ?_
        refine And.intro (ob_indexAddr rfl (wt_none rfl) (ev_dep (j := 6) (by kernel_rfl) rfl rfl) (ev_dep (j := 7) (by kernel_rfl) rfl rfl) (fun _ _ _ hx hy => ⟨_, by rw [hx, hy]; exact index3 Tryz.underlying29 (by kernel_rfl) hlt2 _, rfl⟩)) ?_
        refine And.intro (ob_load rfl (wt_none rfl) (ev_dep (j := 8) (by kernel_rfl) rfl rfl) (fun w2 hb => load3 Tryz.underlying45 rfl (by kernel_rfl) ((hb.cell (World.block_lt_of_cell? wr _ e20)).trans e20) ((hb.cell (World.block_lt_of_cell? wr _ e21)).trans e21) ((hb.cell (World.block_lt_of_cell? wr _ e22)).trans e22)) (fun _ _ => rfl)) ?_
        refine And.intro (ob_call2 rfl Tryz.func36 (by kernel_rfl) (wt_none rfl) (ev_dep (j := 5) (by kernel_rfl) rfl rfl) (ev_dep (j := 9) (by kernel_rfl) rfl rfl) (fun w2 u0 u1 hb h0 h1 => by obtain rfl := h0; obtain rfl := h1; exact (qmul_any _ K _ y _ (k1.drew.below hb) (ke2.drew.below hb) (lK.mono (by decide)) (ly.mono (by decide))).mono fun e w3 h => RetPF.pd h)) ?_
        refine And.intro (ob_call2 rfl Tryz.func39 (by kernel_rfl) (wt_none rfl) (ev_dep (j := 4) (by kernel_rfl) rfl rfl) (ev_dep (j := 10) (by kernel_rfl) rfl rfl) (fun w2 u0 u1 hb h0 h1 => by obtain rfl := h0; exact (qsub_any _ x _ (K * y) _ (ke0.drew.below hb) h1 (lx.mono (by decide)) lKy).mono fun e w3 h => RetPF.pdf h hb.size)) ?_
        refine And.intro (ob_build_q (φ := ppf (x - K * y) wr.heap.size) rfl rfl (ev_dep (j := 11) (by kernel_rfl) rfl rfl) Tryz.underlying29 info_q (fun w v h => ⟨h, by obtain ⟨⟨u, t, rfl, hu, ht⟩, _⟩ := h; obtain ⟨_, _, rfl, _⟩ := id hu; obtain ⟨_, _, rfl, _⟩ := id ht; exact ⟨_, _, _, rfl, rfl, rfl, rfl⟩⟩) (fun _ _ h => h)) ?_
        trivial
      case done2 =>
        refine fun w2 hb2 v0 h0 v1 h1 v2 h2 v3 h3 v4 h4 v5 h5 v6 h6 v7 h7 v8 h8 v9 h9 v10 h10 v11 h11 v12 h12 b hbf => ?_
        obtain rfl := h0; obtain rfl := h1; obtain rfl := h2; obtain rfl := h3; obtain rfl := h4; obtain rfl := h5; obtain rfl := h6; obtain rfl := h7; obtain rfl := h8; obtain rfl := h9
        have q10 := h10
        obtain ⟨q11, f11⟩ := h11
        obtain ⟨g12_, x12, y12, z12, rfl, c120, c121, c122, K12⟩ := h12
        simp only [Act.put, List.setIfInBounds_toArray, List.set_cons_zero, List.set_cons_succ] at hbf
        subst hbf
        replace B1 := B1.below hb2
        replace k1s := k1s.below hb2
        replace k1d := k1d.below hb2
        replace k1z := k1z.below hb2
        replace k1 := k1.below hb2
        replace hR := hR.below hb2
        replace hF := hF.below hb2
        replace bb := bb.trans (hb2.mono bb.size)
        have hsz2 := bb.size
        replace hby := hby.trans (hb2.mono hby.size)
        have s_11 := sB
        have hszB := hby.size
        obtain ⟨⟨uE, tE, eE, sE, dE⟩, fE⟩ := K12
        obtain ⟨rfl, rfl, rfl⟩ : x12 = .bool (ngB (x - K * y).num) ∧ y12 = uE ∧ z12 = tE := by injection eE with eE; simpa using eE
        clear eE
        obtain ⟨AE, cE, rfl, _⟩ := id sE
        obtain ⟨DE, rE, rfl, _⟩ := id dE
        refine any_append_q (i := 13) (.tmp 22) (.tmp 34) (by kernel_rfl) rfl rfl rfl Tryz.underlying29 info_q (p := (x - K * y, .slice AE (digs 10000 (x - K * y).num.natAbs).length cE, .slice DE (digs 10000 (x - K * y).den).length rE)) (ps := ps) rfl hR rfl c120 c121 c122 rfl rfl HL8.out hszB fun v8 w8 b8 row8 bb8 HK8 hb8 => ?_
        simp only [Act.put, List.setIfInBounds_toArray, List.set_cons_zero, List.set_cons_succ] at hb8
        subst hb8
        have EC : IsE .i64 10000 w2 ((x - K * y, .slice AE (digs 10000 (x - K * y).num.natAbs).length cE, .slice DE (digs 10000 (x - K * y).den).length rE) : Elt) := ⟨sE, dE⟩
        have F8 := hF.snoc HK8.out.1 EC ((fE _ _ _ rfl).1.far nR) ((fE _ _ _ rfl).2.far nR)
        clear HK8 EC fE
        refine any_assign (i := 14) (v8) (by kernel_rfl) rfl rfl rfl rfl rfl fun b hbf => ?_
        simp only [Act.put, List.setIfInBounds_toArray, List.set_cons_zero, List.set_cons_succ] at hbf
        subst hbf
        refine any_done (by kernel_rfl) ?_
        have HP8 : Hid ((ps ++ [((x - K * y, .slice AE (digs 10000 (x - K * y).num.natAbs).length cE, .slice DE (digs 10000 (x - K * y).den).length rE) : Elt)]).map (·.1) = (lessq p K q).take (k + 1)) := by
          show _ = _
          rw [List.map_append, HP.out, take_snoc (show (lessq p K q)[k]? = some (x - K * y) from zip_at (f := fun x y => x - K * y) HQ0.out HQ2.out)]
          rfl
        have b8 := hby.trans bb8
        clear hR hF HP
        go_wp2
        go_roundw
        case rel => exact ⟨k + 1, _, by omega, HP8, row8, F8, b8, by go_num⟩
        case measure => simp [intOf]; omega
    · have HPE : Hid (SlF .i64 10000 wr u7 (lessq p K q)) := by
        have h := hR.sl hF
        rw [HP.out, List.take_of_length_le (by have := HLE.out.1; omega)] at h
        exact h
      clear hR hF HP
      go_wp2
      go_ret
      exact ⟨_, rfl, HPE.out, bb⟩
/-- Two slices of the same fractions, so many of one limb each: the program's, and the document's own. -/
def RetFewN (n : Nat) (w : World) (e : Ending) (w' : World) : Prop := ∃ V U qs, e = .returned (.tuple #[V, U]) ∧ SlF .u64 4294967296 w' V qs ∧ SlF .i64 10000 w' U qs ∧ qs.length = n ∧ (∀ q ∈ qs, lenQ q 1) ∧ Below w.heap.size w w' ∧ (∀ g, V.ownBlock = some g → w.heap.size ≤ g ∧ g < w'.heap.size) ∧ (∀ g, U.ownBlock = some g → w.heap.size ≤ g ∧ g < w'.heap.size)
/-- Limbs in new memory; a row in new memory, limbs and all. -/
def NewL (B : Nat) (ps : List Elt) : Prop := ∀ p ∈ ps, Fresh B p.2.1 ∧ Fresh B p.2.2
theorem NewL.nil (B : Nat) : NewL B [] := fun p hp => by cases hp
theorem NewL.snoc {B : Nat} {ps : List Elt} {p : Elt} (h : NewL B ps) (h1 : Fresh B p.2.1) (h2 : Fresh B p.2.2) : NewL B (ps ++ [p]) := fun a ha => by
  rcases List.mem_append.1 ha with ha | ha
  · exact h a ha
  · rw [List.mem_singleton.1 ha]; exact ⟨h1, h2⟩
def IsN (k : IntKind) (B : Nat) (w : World) (B0 : Nat) (v : Value) (r : List Rat) : Prop := ∃ ps : List Elt, ps.map (·.1) = r ∧ IsVF w v ps ∧ (∀ p ∈ ps, IsE k B w p ∧ Fresh B0 p.2.1 ∧ Fresh B0 p.2.2) ∧ ∀ g, v.ownBlock = some g → B0 ≤ g ∧ g < w.heap.size
theorem IsN.sl {k : IntKind} {B : Nat} {w : World} {B0 : Nat} {v : Value} {r : List Rat} (h : IsN k B w B0 v r) : SlF k B w v r := by
  obtain ⟨ps, h1, h2, h3, _⟩ := h
  exact ⟨ps, h1, h2, fun p hp => (h3 p hp).1⟩
theorem IsN.below {k : IntKind} {B : Nat} {w w' : World} {B0 : Nat} {v : Value} {r : List Rat} (h : IsN k B w B0 v r) (hb : Below w.heap.size w w') : IsN k B w' B0 v r := by
  obtain ⟨ps, h1, h2, h3, h4⟩ := h
  exact ⟨ps, h1, h2.below hb, fun p hp => ⟨(h3 p hp).1.below hb, (h3 p hp).2⟩, fun g hg => ⟨(h4 g hg).1, Nat.lt_of_lt_of_le (h4 g hg).2 hb.size⟩⟩
theorem IsN.mono {k : IntKind} {B : Nat} {w : World} {B0 B1 : Nat} {v : Value} {r : List Rat} (h : IsN k B w B0 v r) (hb : B1 ≤ B0) : IsN k B w B1 v r := by
  obtain ⟨ps, h1, h2, h3, h4⟩ := h
  exact ⟨ps, h1, h2, fun p hp => ⟨(h3 p hp).1, (h3 p hp).2.1.mono hb, (h3 p hp).2.2.mono hb⟩, fun g hg => ⟨Nat.le_trans hb (h4 g hg).1, (h4 g hg).2⟩⟩
/-- Two rows of the same fractions, in new memory. -/
def RetFewG (n : Nat) (w : World) (e : Ending) (w' : World) : Prop := ∃ V U qs, e = .returned (.tuple #[V, U]) ∧ IsN .u64 4294967296 w' w.heap.size V qs ∧ IsN .i64 10000 w' w.heap.size U qs ∧ qs.length = n ∧ (∀ q ∈ qs, lenQ q 1) ∧ Below w.heap.size w w'
set_option maxHeartbeats 6400000 in
set_option maxRecDepth 100000 in
theorem few11_new (A0 : Option Addr) (n0 c0 M : Nat) (w : World) (h0 : ArgQs w (.slice A0 n0 c0)) (hM : M ≤ 8) :
    Calls Tryz.prog 5 #[.slice A0 n0 c0, .int .i64 (M : Int)] w (RetFewG (min n0 M) w) := by
  obtain ⟨A0_, n0_, c0_, e_, hn0, hc0, hel⟩ := h0
  injection e_ with e1_ e2_ e3_
  subst e1_
  subst e2_
  subst e3_
  have HEL := Lib.hid hel
  clear hel
  unfold maxLen at hc0
  have bb : Below w.heap.size w w := Below.refl _ _
  go_enter Tryz.func5, Tryz.ntmps5
  go_wp2
  go_loopw [6, 7, 8] (fun v4 v5 v6 wr => ∃ (k : Nat) (ps rs : List Elt), k ≤ M ∧ k ≤ n0 ∧ Hid (ps.length = k) ∧ Hid (rs.map (·.1) = ps.map (·.1)) ∧ Hid (∀ p ∈ ps, lenQ p.1 1) ∧ TwoRows w wr v4 v5 ps rs ∧ NewL w.heap.size ps ∧ NewL w.heap.size rs ∧ v6 = .int .i64 (k : Int)) (fun _ _ v6 _ => M - (intOf v6).toNat)
  case atStart =>
    have r0 := rowF_lit0 28 w w.heap.size (Nat.le_refl _)
    have r1 := rowF_lit0 45 (w.alloc (.cells #[] 28)) w.heap.size (by simp)
    have r0' := r0.below (below_alloc (Nat.le_refl _) (.cells #[] 45))
    refine ⟨0, [], [], by omega, by omega, rfl, rfl, (by show ∀ p ∈ _, _; intro p hp; cases hp), ⟨r0', ?_, ⟨FarF.nil _ _ _ _, FarF.nil _ _ _ _⟩, ⟨FarF.nil _ _ _ _, FarF.nil _ _ _ _⟩, ?_, (below_alloc (Nat.le_refl _) _).alloc (by simp) _⟩, NewL.nil _, NewL.nil _, rfl⟩
    · simpa using r1
    · intro g h1 h2
      simp [Value.ownBlock] at h1 h2
      omega
  case round =>
    obtain ⟨k, ps, rs, hk8, hkn, HPL, HRP, HLQ, hTR, hNP, hNR, rfl⟩ := hrel
    obtain ⟨u4, hu4⟩ : ∃ u4, u4 = u6 := ⟨_, rfl⟩
    obtain ⟨u5, hu5⟩ : ∃ u5, u5 = u7 := ⟨_, rfl⟩
    subst hu4
    subst hu5
    have bb' := hTR.2.2.2.2.2
    clear bb
    have bb := bb'
    clear bb'
    by_cases hlt : k < n0 ∧ k < M
    · obtain ⟨hlt1, hlt2⟩ := hlt
      obtain ⟨ad, b, ue, te, l, m, hA0, e0, e1, e2, hu, lu, ht, lt⟩ := HEL.out k hlt1
      subst hA0
      obtain ⟨Ae, ce, rfl, _⟩ := id hu
      obtain ⟨De, ee, rfl, _⟩ := id ht
      replace e0 := (bb.cell (World.block_lt_of_cell? w _ e0)).trans e0
      replace e1 := (bb.cell (World.block_lt_of_cell? w _ e1)).trans e1
      replace e2 := (bb.cell (World.block_lt_of_cell? w _ e2)).trans e2
      replace hu := hu.below bb
      replace ht := ht.below bb
      obtain ⟨q, hq⟩ : ∃ q, q = cleanQ b l m 1 := ⟨_, rfl⟩
      have lq : lenQ q 1 := by rw [hq]; exact cleanQ_len _ _ _ (by omega)
      have HQ := Lib.hid hq.symm
      clear hq
      have bl : Below wr.heap.size wr wr := Below.refl _ _
      have hszr := bb.size
      go_upto_region 5 with (fail)
      refine flowp 6 [Pd.eq (.slice (some ad) n0 c0), Pd.eq (.int .i64 (k : Int)), Pd.eq (.pointer (some (ad.add (k * 3)))), Pd.eq (.agg #[.bool b, .slice Ae l.length ce, .slice De m.length ee]), pq (q) wr.heap.size, pn 28 #[.bool false, .slice none 0 0, .slice none 0 0] wr.heap.size] (by kernel_rfl) ?ob1 ?done1
      case ob1 =>
        refine And.intro (ob_move rfl (wt_none rfl) (ev_far rfl rfl) (fun _ _ h => h)) ?_
        refine And.intro (ob_move rfl (wt_none rfl) (ev_far rfl rfl) (fun _ _ h => h)) ?_
        refine And.intro (ob_indexAddr rfl (wt_none rfl) (ev_dep (j := 0) (by kernel_rfl) rfl rfl) (ev_dep (j := 1) (by kernel_rfl) rfl rfl) (fun _ _ _ hx hy => ⟨_, by rw [hx, hy]; exact index3_any Tryz.underlying22 (by kernel_rfl) ad hlt1 _, rfl⟩)) ?_
        refine And.intro (ob_load rfl (wt_none rfl) (ev_dep (j := 2) (by kernel_rfl) rfl rfl) (fun w2 hb => load3_any Tryz.underlying28 rfl (by kernel_rfl) ((hb.cell (World.block_lt_of_cell? wr _ e0)).trans e0) ((hb.cell (World.block_lt_of_cell? wr _ e1)).trans e1) ((hb.cell (World.block_lt_of_cell? wr _ e2)).trans e2)) (fun _ _ => rfl)) ?_
        refine And.intro (ob_call2 rfl Tryz.func6 (by kernel_rfl) (wt_none rfl) (ev_dep (j := 3) (by kernel_rfl) rfl rfl) (ev_const _) (fun w2 u0 u1 hb h0 h1 => by obtain rfl := h0; obtain rfl := h1; exact (HQ.out ▸ qclean_any b _ _ l m 1 1 _ rfl (hu.below hb) lu (ht.below hb) lt (by omega) (by omega)).mono fun e w3 h => RetQ.pd h hb.size)) ?_
        refine And.intro (ob_alloc (z := .agg #[.bool false, .slice none 0 0, .slice none 0 0]) rfl rfl (fun _ => by kernel_rfl) (fun _ _ hB h => ⟨_, rfl, hB, h⟩)) ?_
        trivial
      case done1 =>
        refine fun w2 hb2 v0 h0 v1 h1 v2 h2 v3 h3 v4 h4 v5 h5 d5 b hbf => ?_
        obtain rfl := h0; obtain rfl := h1; obtain rfl := h2; obtain rfl := h3
        obtain ⟨q4, f4⟩ := h4
        obtain ⟨g1_5, rfl, hg5, B5⟩ := h5
        simp only [Act.put, List.setIfInBounds_toArray, List.set_cons_zero, List.set_cons_succ] at hbf
        subst hbf
        replace bb := bb.trans (hb2.mono bb.size)
        have hsz2 := bb.size
        replace bl := bl.trans (hb2.mono bl.size)
        have BA9 := B5
        obtain ⟨u4, t4, rfl, q4, d4⟩ := q4
        obtain ⟨A7, c7, rfl, _⟩ := id q4
        obtain ⟨D7, e7, rfl, _⟩ := id d4
        refine ops_store (i := 6) rfl rfl rfl rfl rfl rfl (cells := [.bool (ngB (q).num), .slice A7 (digs 4294967296 (q).num.natAbs).length c7, .slice D7 (digs 4294967296 (q).den).length e7]) rfl BA9 rfl (by kernel_rfl) (one3 rfl rfl rfl) fun w3 hg3 BN3 => ?_
        replace q4 := off q4 BA9 no_ints3 hg3
        replace d4 := off d4 BA9 no_ints3 hg3
        replace bb := bb.trans ((Below.refl _ _).grown hg3 bb.size (fun g hg => by injection hg with hg; omega))
        have hsz3 := bb.size
        have B7 : Blk w3 (g1_5) _ _ := BN3
        have k7s := q4
        have k7d := d4
        have k7z : IsZ w3 (.agg #[.bool (ngB (q).num), .slice A7 (digs 4294967296 (q).num.natAbs).length c7]) ((q).num) := ⟨_, rfl, k7s⟩
        have k7 : IsQ w3 (.agg #[.bool (ngB (q).num), .slice A7 (digs 4294967296 (q).num.natAbs).length c7, .slice D7 (digs 4294967296 (q).den).length e7]) (q) := ⟨_, _, rfl, k7s, k7d⟩
        have hq_ := bl.size
        replace bl := bl.trans ((Below.refl _ _).grown hg3 bl.size (fun g hg => by injection hg with hg; omega))
        clear hq_
        refine ops_done ?_
        have g1 := (f4 _ _ _ rfl).1
        have g2 := (f4 _ _ _ rfl).2
        have under4 := hTR.1.under
        have under5 := hTR.2.1.under
        have far4 : Far u4 (.slice A7 (digs 4294967296 (q).num.natAbs).length c7) ∧ Far u4 (.slice D7 (digs 4294967296 (q).den).length e7) := ⟨g1.far under4, g2.far under4⟩
        have far5 : Far u5 (.slice A7 (digs 4294967296 (q).num.natAbs).length c7) ∧ Far u5 (.slice D7 (digs 4294967296 (q).den).length e7) := ⟨g1.far under5, g2.far under5⟩
        have hT2 := hTR.below bl
        have HT2 := Lib.hid hT2
        have hr4 : RowF 28 w3 w.heap.size u4 ps := hT2.1
        have hszT : w.heap.size ≤ w3.heap.size := hT2.2.2.2.2.2.size
        have hne4 : u4.ownBlock ≠ some g1_5 := fun e => by have := under4 _ e; omega
        obtain ⟨x70, x71, x72, _, _, _⟩ := three B7
        obtain ⟨P1, hP1⟩ : ∃ P1 : Elt, P1 = (q, .slice A7 (digs 4294967296 (q).num.natAbs).length c7, .slice D7 (digs 4294967296 (q).den).length e7) := ⟨_, rfl⟩
        have HP1 := Lib.hid hP1
        have k7d_ : IsE .u64 4294967296 w3 (q, .slice A7 (digs 4294967296 (q).num.natAbs).length c7, .slice D7 (digs 4294967296 (q).den).length e7) := ⟨k7s, k7d⟩
        have lq3 : lenQ q 30000 := ⟨Nat.le_trans lq.1 (by decide), Nat.le_trans lq.2 (by decide)⟩
        have HL8 : Hid (ps.length ≤ 1000000000 ∧ rs.length ≤ 1000000000) := by
          have h1 := HPL.out
          have h2 := congrArg List.length HRP.out
          rw [List.length_map, List.length_map] at h2
          exact ⟨by omega, by omega⟩
        clear hT2 hTR e0 e1 e2 hu ht lu lt hP1
        obtain ⟨cA0, cA1, cA2⟩ := new_cells w3 28 (.bool (ngB (q).num)) (.slice A7 (digs 4294967296 (q).num.natAbs).length c7) (.slice D7 (digs 4294967296 (q).den).length e7)
        have bA := below_alloc (w := w3) (Nat.le_refl _) (.cells #[.bool (ngB (q).num), .slice A7 (digs 4294967296 (q).num.natAbs).length c7, .slice D7 (digs 4294967296 (q).den).length e7] 28)
        obtain ⟨wA, hwA⟩ : ∃ wA, wA = w3.alloc (.cells #[.bool (ngB (q).num), .slice A7 (digs 4294967296 (q).num.natAbs).length c7, .slice D7 (digs 4294967296 (q).den).length e7] 28) := ⟨_, rfl⟩
        have HWA := Lib.hid hwA
        rw [← hwA] at cA0 cA1 cA2 bA
        replace bA := bA.drew
        have rA := hr4.below bA
        have eA := k7d_.below bA
        have tA := HT2.out.below bA
        have BA_ := B7.below bA
        have hszA : w.heap.size ≤ wA.drew.heap.size := tA.2.2.2.2.2.size
        have TA := Lib.hid tA
        clear tA
        subst hwA
        obtain ⟨xA0, xA1, xA2, _, _, _⟩ := three BA_
        go_upto_region 6 with (fail)
        go_region_law (first
          | (refine step_append_q rfl (.tmp 28) (.tmp 30) rfl Tryz.underlying22 info_rat (v := u4) (p := (q, .slice A7 (digs 4294967296 (q).num.natAbs).length c7, .slice D7 (digs 4294967296 (q).den).length e7)) (ps := ps) (by rfl) (by exact rA) (ad := ⟨w3.heap.size, 0, none⟩) (c := 1) (by rfl) (by exact cA0) (by exact cA1) (by exact cA2) rfl rfl HL8.out.1 (by exact hszA) ?_; intro v5 w5 row5 bb5 HK5; have T5 := Lib.hid (TA.out.one row5 HK5.out bb5 eA far4 far5); have s5 := (HK5.out.1 _ _ _ eA.1 far4.1).1; have d5 := (HK5.out.1 _ _ _ eA.2 far4.2).1; have B5_ := BA_.other HK5.out.2.1 hne4; obtain ⟨x50, x51, x52, _, _, _⟩ := three B5_)
          | (go_simp; go_at_call 12; refine (qoff_any _ q _ ⟨_, _, rfl, (by exact s5), (by exact d5)⟩ lq3).mono ?_; rintro e w6 ⟨v6, rfl, k6, f6, b6⟩; have T6 := Lib.hid (T5.out.below b6); have row6 := T6.out.2.1; obtain ⟨u6, t6, rfl, q6, d6⟩ := k6; obtain ⟨A6, c6, rfl, _⟩ := id q6; obtain ⟨D6, e6, rfl, _⟩ := id d6; have hsz6 : w.heap.size ≤ w6.heap.size := T6.out.2.2.2.2.2.size; obtain ⟨cC0, cC1, cC2⟩ := new_cells w6 45 (.bool (ngB (q).num)) (.slice A6 (digs 10000 (q).num.natAbs).length c6) (.slice D6 (digs 10000 (q).den).length e6); have rC := row6.below (below_alloc (Nat.le_refl _) (.cells #[.bool (ngB (q).num), .slice A6 (digs 10000 (q).num.natAbs).length c6, .slice D6 (digs 10000 (q).den).length e6] 45)); have hszC := Nat.le_trans hsz6 (below_alloc (w := w6) (Nat.le_refl _) (.cells #[.bool (ngB (q).num), .slice A6 (digs 10000 (q).num.natAbs).length c6, .slice D6 (digs 10000 (q).den).length e6] 45)).size)
          | (refine step_append_q rfl (.tmp 32) (.tmp 35) rfl Tryz.underlying29 info_q (v := u5) (p := (q, .slice A6 (digs 10000 (q).num.natAbs).length c6, .slice D6 (digs 10000 (q).den).length e6)) (ps := rs) (by rfl) (by exact rC) (ad := ⟨w6.heap.size, 0, none⟩) (c := 1) (by rfl) (by exact cC0) (by exact cC1) (by exact cC2) rfl rfl HL8.out.2 (by exact hszC) ?_; intro v7 w7 row7 bb7 HK7))
        all_goals
          have ba6 := below_alloc (w := w6) (Nat.le_refl _) (.cells #[.bool (ngB (q).num), .slice A6 (digs 10000 (q).num.natAbs).length c6, .slice D6 (digs 10000 (q).den).length e6] 45)
          have TC := T6.out.below ba6
          have EC : IsE .i64 10000 (w6.alloc (.cells #[.bool (ngB (q).num), .slice A6 (digs 10000 (q).num.natAbs).length c6, .slice D6 (digs 10000 (q).den).length e6] 45)) (q, .slice A6 (digs 10000 (q).num.natAbs).length c6, .slice D6 (digs 10000 (q).den).length e6) := ⟨q6.below ba6, d6.below ba6⟩
          have j1 := (f6 _ _ _ rfl).1
          have j2 := (f6 _ _ _ rfl).2
          have n4 := T5.out.1.under
          have n5 := T5.out.2.1.under
          have T7 := TC.two row7 HK7.out bb7 EC ⟨j1.far n4, j2.far n4⟩ ⟨j1.far n5, j2.far n5⟩
          have NP7 := hNP.snoc (p := (q, .slice A7 (digs 4294967296 (q).num.natAbs).length c7, .slice D7 (digs 4294967296 (q).den).length e7)) (g1.mono hszr) (g2.mono hszr)
          have hs5 : w.heap.size ≤ w5.heap.size := T5.out.2.2.2.2.2.size
          have NR7 := hNR.snoc (p := (q, .slice A6 (digs 10000 (q).num.natAbs).length c6, .slice D6 (digs 10000 (q).den).length e6)) (j1.mono hs5) (j2.mono hs5)
          have HPL7 : Hid ((ps ++ [((q, .slice A7 (digs 4294967296 (q).num.natAbs).length c7, .slice D7 (digs 4294967296 (q).den).length e7) : Elt)]).length = k + 1) := by show _ = _; rw [List.length_append, HPL.out]; rfl
          have HRP7 : Hid ((rs ++ [((q, .slice A6 (digs 10000 (q).num.natAbs).length c6, .slice D6 (digs 10000 (q).den).length e6) : Elt)]).map (·.1) = (ps ++ [((q, .slice A7 (digs 4294967296 (q).num.natAbs).length c7, .slice D7 (digs 4294967296 (q).den).length e7) : Elt)]).map (·.1)) := by show _ = _; rw [List.map_append, List.map_append, HRP.out]; rfl
          have HLQ7 : Hid (∀ p ∈ ps ++ [((q, .slice A7 (digs 4294967296 (q).num.natAbs).length c7, .slice D7 (digs 4294967296 (q).den).length e7) : Elt)], lenQ p.1 1) := fun p hp => by
            rcases List.mem_append.1 hp with hp | hp
            · exact HLQ.out p hp
            · rw [List.mem_singleton.1 hp]; exact lq
          have hme : M - (k + 1) < M - k := by omega
          go_wp2
          go_roundw
          case rel => exact ⟨k + 1, _, _, by omega, by omega, HPL7, HRP7, HLQ7, T7, NP7, NR7, rfl⟩
          case measure => exact hme
    · have hV0 := fun g h => And.intro (hTR.1.base_le g h) (hTR.1.under g h)
      have hU0 := fun g h => And.intro (hTR.2.1.base_le g h) (hTR.2.1.under g h)
      have HEND : Hid (IsN .u64 4294967296 wr w.heap.size u4 (ps.map (·.1)) ∧ IsN .i64 10000 wr w.heap.size u5 (ps.map (·.1)) ∧ (ps.map (·.1)).length = min n0 M ∧ (∀ q ∈ ps.map (·.1), lenQ q 1)) := by
        show _ ∧ _ ∧ _ ∧ _
        refine ⟨⟨ps, rfl, hTR.1.isVF, fun p hp => ⟨(hTR.2.2.1.1 p hp).1, hNP p hp⟩, fun g hg => ⟨hTR.1.base_le g hg, hTR.1.under g hg⟩⟩, ⟨rs, HRP.out, hTR.2.1.isVF, fun p hp => ⟨(hTR.2.2.2.1.2 p hp).1, hNR p hp⟩, fun g hg => ⟨hTR.2.1.base_le g hg, hTR.2.1.under g hg⟩⟩, by rw [List.length_map, HPL.out]; omega, fun x hx => ?_⟩
        obtain ⟨p, hp, rfl⟩ := List.mem_map.1 hx
        exact HLQ.out p hp
      clear hTR HRP HLQ HPL hNP hNR hV0 hU0
      have hx : ¬ k < n0 ∨ (k < n0 ∧ ¬ k < M) := by omega
      rcases hx with hx | ⟨hx1, hx2⟩
      all_goals
        go_wp2
        go_ret2
        exact ⟨_, _, _, rfl, HEND.out.1, HEND.out.2.1, HEND.out.2.2.1, HEND.out.2.2.2, bb⟩
theorem few11_any (A0 : Option Addr) (n0 c0 M : Nat) (w : World) (h0 : ArgQs w (.slice A0 n0 c0)) (hM : M ≤ 8) : Calls Tryz.prog 5 #[.slice A0 n0 c0, .int .i64 (M : Int)] w (RetFewN (min n0 M) w) :=
  (few11_new A0 n0 c0 M w h0 hM).mono fun e w' h => by
    obtain ⟨V, U, qs, h1, h2, h3, h4, h5, h6⟩ := h
    obtain ⟨_, _, _, _, hV⟩ := id h2
    obtain ⟨_, _, _, _, hU⟩ := id h3
    exact ⟨V, U, qs, h1, h2.sl, h3.sl, h4, h5, h6, hV, hU⟩
end Go.Proofs.YtodpjmbclmlieaaGreat.rat
