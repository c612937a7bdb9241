/- Is a row of fractions the document's? Condition: as it says.
Package matrix: what only reads: Size, fit, alike, Same; the document's Wide; the statements' even, Is. Condition: as each says.
Package matrix: whether a table may be (a function's value with a captured variable), Check. Condition: as each says.
Rows of one fraction written out in a region; a table's place; what the types of rows and tables are. Condition: as each says.
Package vect: Add. Condition: as each says.
Package matrix: copied, bare, dots, Column. Condition: as each says.
Rows of the call's own that grow within a table of its own: how what was there stays. Condition: as each says.
Package matrix: appended. Condition: as each says.
Package matrix: joined, turned: rows of the call's own that grow within a table. Condition: as each says.
Package matrix: turned. Condition: as each says.
Package matrix: product, Ident, Add, Apply, Turn. Condition: as each says.
Package matrix: Add, Mul. Condition: as each says.
Package matrix: Beside. Condition: as each says.
The chapter's example of layer 12; the statements' Among. Condition: as each says.
An append to a row of slices of the call's own: how what was there stays. Condition: as it says.
The document's Dot, whose answer lies in new memory. Condition: as it says.
The document's Column. Condition: as each says.
The document's Turn and Mul. Condition: as each says. -/
import Derived.Test.YtekpnbgchoccmaaGreatKC4
import Derived.Deep.RegionHeld3
namespace Go.Proofs.YtekpnbgchoccmaaGreat.rat
open Go.RowKit Go.Proofs.YtekpnbgchoccmaaGreat.num Go.Proofs.YtekpnbgchoccmaaGreat.mem Go.Proofs.YtekpnbgchoccmaaGreat.nat Go.Proofs.YtekpnbgchoccmaaGreat.txt Go.Proofs.YtekpnbgchoccmaaGreat.str Go.Proofs.YtekpnbgchoccmaaGreat.flow Go.Proofs.YtekpnbgchoccmaaGreat.whl
set_option linter.unusedVariables false
set_option maxHeartbeats 3200000 in
set_option maxRecDepth 100000 in
theorem is_any (a0 a1 : Value) (p q : List Rat) (t : Int) (w : World) (h0 : SlF .u64 4294967296 w a0 p) (h1 : SlF .i64 10000 w a1 q) (hl : ∀ x ∈ q, lenQ x 30000) (ht : t = if p = q then 1 else 0) :
    Calls Tryz.prog 36 #[a0, a1] w (RetV (.int .i64 t) w) := by
  have bb : Below w.heap.size w w := Below.refl _ _
  have sl0 := h0
  obtain ⟨A0, c0, rfl, hc0, hm0⟩ := h0.shape
  unfold maxLen at hm0
  have sl1 := h1
  obtain ⟨A1, c1, rfl, hc1, hm1⟩ := h1.shape
  unfold maxLen at hm1
  have HL := Lib.hid hl
  have HT := Lib.hid ht
  clear hl ht
  go_enter Tryz.func36, Tryz.ntmps36
  go_upto_region 1 with (fail)
  have hsz0 := bb.size
  by_cases he : p.length = q.length
  case neg =>
    have HW : Hid (t = 0) := by show _ = _; rw [HT.out, if_neg fun e => he (by rw [e])]
    have heb : (((p.length : Nat) : Int) == ((q.length : Nat) : Int)) = false := by rw [beq_eq_false_iff_ne]; omega
    go_wp2
    go_ret
    exact ⟨by rw [HW.out]; rfl, bb⟩
  have heb : (((p.length : Nat) : Int) == ((q.length : Nat) : Int)) = true := by rw [beq_iff_eq]; omega
  have HE := Lib.hid he
  clear he
  go_wp2
  go_loopw [5] (fun v5 wr => ∃ k : Nat, k ≤ p.length ∧ Hid (p.take k = q.take k) ∧ Below w.heap.size w wr ∧ v5 = .int .i64 (k : Int)) (fun v5 _ => p.length - (intOf v5).toNat)
  case atStart => exact ⟨0, by omega, rfl, bb, rfl⟩
  case round =>
    obtain ⟨k, hk, HA, hbw, rfl⟩ := hrel
    clear bb heb
    have bb := hbw
    clear hbw
    have hszr := bb.size
    by_cases hlt : k < p.length
    · have hlt2 : k < q.length := by have := HE.out; omega
      obtain ⟨x, hq0_⟩ : ∃ x, p[k]? = some x := ⟨_, List.getElem?_eq_getElem hlt⟩
      obtain ⟨g0_, o0_, ue0, te0, hA0_, _, e00, e01, e02, es0, ed0⟩ := (sl0.below bb).at_ hq0_
      subst hA0_
      have HQ0 := Lib.hid hq0_
      clear hq0_
      obtain ⟨Ae0, ce0, rfl, _⟩ := id es0
      obtain ⟨De0, ee0, rfl, _⟩ := id ed0
      have ke0 : IsQ wr (.agg #[.bool (ngB x.num), .slice Ae0 (digs 4294967296 x.num.natAbs).length ce0, .slice De0 (digs 4294967296 x.den).length ee0]) x := ⟨_, _, rfl, es0, ed0⟩
      obtain ⟨y, hq1_⟩ : ∃ y, q[k]? = some y := ⟨_, List.getElem?_eq_getElem hlt2⟩
      obtain ⟨g1_, o1_, ue1, te1, hA1_, _, e10, e11, e12, es1, ed1⟩ := (sl1.below bb).at_ hq1_
      subst hA1_
      have HQ1 := Lib.hid hq1_
      clear hq1_
      obtain ⟨Ae1, ce1, rfl, _⟩ := id es1
      obtain ⟨De1, ee1, rfl, _⟩ := id ed1
      have ke1 : IsP wr (.agg #[.bool (ngB y.num), .slice Ae1 (digs 10000 y.num.natAbs).length ce1, .slice De1 (digs 10000 y.den).length ee1]) y := ⟨_, _, rfl, es1, ed1⟩
      have ly : lenQ y 30000 := HL.out y (List.mem_of_getElem? HQ1.out)
      obtain ⟨u, hu⟩ : ∃ u, u = decide (x = y) := ⟨_, rfl⟩
      have HU := Lib.hid hu
      by_cases hxy : x = y
      · have HA2 : Hid (p.take (k + 1) = q.take (k + 1)) := by show _ = _; rw [take_snoc HQ0.out, take_snoc HQ1.out, HA.out, hxy]
        rw [decide_eq_true hxy] at hu
        subst hu
        clear hxy
        have sB := bb.size
        go_upto_region 6 with (fail)
        refine flow 11 [Pd.eq (.slice (some ⟨g0_, o0_, none⟩) p.length c0), Pd.eq (.int .i64 (k : Int)), Pd.eq (.pointer (some ⟨g0_, o0_ + k * 3, none⟩)), Pd.eq (.agg #[.bool (ngB x.num), .slice Ae0 (digs 4294967296 x.num.natAbs).length ce0, .slice De0 (digs 4294967296 x.den).length ee0]), Pd.eq (.slice (some ⟨g1_, o1_, none⟩) q.length c1), Pd.eq (.int .i64 (k : Int)), Pd.eq (.pointer (some ⟨g1_, o1_ + k * 3, none⟩)), Pd.eq (.agg #[.bool (ngB y.num), .slice Ae1 (digs 10000 y.num.natAbs).length ce1, .slice De1 (digs 10000 y.den).length ee1]), pq (y) wr.heap.size, Pd.eq (.bool true), Pd.eq (.bool false)] (by kernel_rfl) (by kernel_rfl) ?ob1 ?done1
        case ob1 =>
          refine And.intro (ob_move rfl (wt_none rfl) (ev_far rfl rfl) (fun _ _ h => h)) ?_
          refine And.intro (ob_move rfl (wt_none rfl) (ev_far rfl rfl) (fun _ _ h => h)) ?_
          refine And.intro (ob_indexAddr rfl (wt_none rfl) (ev_dep (j := 0) (by kernel_rfl) rfl rfl) (ev_dep (j := 1) (by kernel_rfl) rfl rfl) (fun _ _ _ hx hy => ⟨_, by rw [hx, hy]; exact index3 Tryz.underlying39 (by kernel_rfl) hlt _, rfl⟩)) ?_
          refine And.intro (ob_load rfl (wt_none rfl) (ev_dep (j := 2) (by kernel_rfl) rfl rfl) (fun w2 hb => load3 Tryz.underlying46 rfl (by kernel_rfl) ((hb.cell (World.block_lt_of_cell? wr _ e00)).trans e00) ((hb.cell (World.block_lt_of_cell? wr _ e01)).trans e01) ((hb.cell (World.block_lt_of_cell? wr _ e02)).trans e02)) (fun _ _ => rfl)) ?_
          refine And.intro (ob_move rfl (wt_none rfl) (ev_far rfl rfl) (fun _ _ h => h)) ?_
          refine And.intro (ob_move rfl (wt_none rfl) (ev_far rfl rfl) (fun _ _ h => h)) ?_
          refine And.intro (ob_indexAddr rfl (wt_none rfl) (ev_dep (j := 4) (by kernel_rfl) rfl rfl) (ev_dep (j := 5) (by kernel_rfl) rfl rfl) (fun _ _ _ hx hy => ⟨_, by rw [hx, hy]; exact index3 Tryz.underlying48 (by kernel_rfl) hlt2 _, rfl⟩)) ?_
          refine And.intro (ob_load rfl (wt_none rfl) (ev_dep (j := 6) (by kernel_rfl) rfl rfl) (fun w2 hb => load3 Tryz.underlying63 rfl (by kernel_rfl) ((hb.cell (World.block_lt_of_cell? wr _ e10)).trans e10) ((hb.cell (World.block_lt_of_cell? wr _ e11)).trans e11) ((hb.cell (World.block_lt_of_cell? wr _ e12)).trans e12)) (fun _ _ => rfl)) ?_
          refine And.intro (ob_call1 rfl Tryz.func61 (by kernel_rfl) (wt_none rfl) (ev_dep (j := 7) (by kernel_rfl) rfl rfl) (fun w2 u0 hb h0 => by obtain rfl := h0; exact (qback_any _ y _ (ke1.drew.below hb) ly).mono fun e w3 h => RetQ.pd h hb.size)) ?_
          refine And.intro (ob_call2 rfl Tryz.func60 (by kernel_rfl) (wt_none rfl) (ev_dep (j := 3) (by kernel_rfl) rfl rfl) (ev_dep (j := 8) (by kernel_rfl) rfl rfl) (fun w2 u0 u1 hb h0 h1 => by obtain rfl := h0; exact (qsame_any _ _ x y true _ (ke0.drew.below hb) h1.1 HU.out).mono fun e w3 h => RetV.pd h)) ?_
          refine And.intro (ob_un rfl (wt_none rfl) (ev_dep (j := 9) (by kernel_rfl) rfl rfl) (fun _ => un_not _ _) (fun _ => rfl)) ?_
          trivial
        case done1 =>
          refine fun w2 hb2 v0 h0 v1 h1 v2 h2 v3 h3 v4 h4 v5 h5 v6 h6 v7 h7 v8 h8 v9 h9 v10 h10 b hbf => ?_
          obtain rfl := h0; obtain rfl := h1; obtain rfl := h2; obtain rfl := h3; obtain rfl := h4; obtain rfl := h5; obtain rfl := h6; obtain rfl := h7; obtain rfl := h9; obtain rfl := h10
          obtain ⟨q8, f8⟩ := h8
          simp only [Act.put, List.setIfInBounds_toArray, List.set_cons_zero, List.set_cons_succ] at hbf
          subst hbf
          replace bb := bb.trans (hb2.mono bb.size)
          have hsz2 := bb.size
          have s_8 := sB
          refine any_done (by kernel_rfl) ?_
          go_wp2
          go_roundw
          case rel => exact ⟨k + 1, by omega, HA2, bb, by go_num⟩
          case measure => simp [intOf]; omega
      · have HW : Hid (t = 0) := by
          show _ = _
          rw [HT.out, if_neg]
          intro e
          have h0 := HQ0.out
          rw [e, HQ1.out] at h0
          exact hxy (Option.some.inj h0).symm
        rw [decide_eq_false hxy] at hu
        subst hu
        clear hxy
        have sB := bb.size
        go_upto_region 6 with (fail)
        refine flow 11 [Pd.eq (.slice (some ⟨g0_, o0_, none⟩) p.length c0), Pd.eq (.int .i64 (k : Int)), Pd.eq (.pointer (some ⟨g0_, o0_ + k * 3, none⟩)), Pd.eq (.agg #[.bool (ngB x.num), .slice Ae0 (digs 4294967296 x.num.natAbs).length ce0, .slice De0 (digs 4294967296 x.den).length ee0]), Pd.eq (.slice (some ⟨g1_, o1_, none⟩) q.length c1), Pd.eq (.int .i64 (k : Int)), Pd.eq (.pointer (some ⟨g1_, o1_ + k * 3, none⟩)), Pd.eq (.agg #[.bool (ngB y.num), .slice Ae1 (digs 10000 y.num.natAbs).length ce1, .slice De1 (digs 10000 y.den).length ee1]), pq (y) wr.heap.size, Pd.eq (.bool false), Pd.eq (.bool true)] (by kernel_rfl) (by kernel_rfl) ?ob2 ?done2
        case ob2 =>
          refine And.intro (ob_move rfl (wt_none rfl) (ev_far rfl rfl) (fun _ _ h => h)) ?_
          refine And.intro (ob_move rfl (wt_none rfl) (ev_far rfl rfl) (fun _ _ h => h)) ?_
          refine And.intro (ob_indexAddr rfl (wt_none rfl) (ev_dep (j := 0) (by kernel_rfl) rfl rfl) (ev_dep (j := 1) (by kernel_rfl) rfl rfl) (fun _ _ _ hx hy => ⟨_, by rw [hx, hy]; exact index3 Tryz.underlying39 (by kernel_rfl) hlt _, rfl⟩)) ?_
          refine And.intro (ob_load rfl (wt_none rfl) (ev_dep (j := 2) (by kernel_rfl) rfl rfl) (fun w2 hb => load3 Tryz.underlying46 rfl (by kernel_rfl) ((hb.cell (World.block_lt_of_cell? wr _ e00)).trans e00) ((hb.cell (World.block_lt_of_cell? wr _ e01)).trans e01) ((hb.cell (World.block_lt_of_cell? wr _ e02)).trans e02)) (fun _ _ => rfl)) ?_
          refine And.intro (ob_move rfl (wt_none rfl) (ev_far rfl rfl) (fun _ _ h => h)) ?_
          refine And.intro (ob_move rfl (wt_none rfl) (ev_far rfl rfl) (fun _ _ h => h)) ?_
          refine And.intro (ob_indexAddr rfl (wt_none rfl) (ev_dep (j := 4) (by kernel_rfl) rfl rfl) (ev_dep (j := 5) (by kernel_rfl) rfl rfl) (fun _ _ _ hx hy => ⟨_, by rw [hx, hy]; exact index3 Tryz.underlying48 (by kernel_rfl) hlt2 _, rfl⟩)) ?_
          refine And.intro (ob_load rfl (wt_none rfl) (ev_dep (j := 6) (by kernel_rfl) rfl rfl) (fun w2 hb => load3 Tryz.underlying63 rfl (by kernel_rfl) ((hb.cell (World.block_lt_of_cell? wr _ e10)).trans e10) ((hb.cell (World.block_lt_of_cell? wr _ e11)).trans e11) ((hb.cell (World.block_lt_of_cell? wr _ e12)).trans e12)) (fun _ _ => rfl)) ?_
          refine And.intro (ob_call1 rfl Tryz.func61 (by kernel_rfl) (wt_none rfl) (ev_dep (j := 7) (by kernel_rfl) rfl rfl) (fun w2 u0 hb h0 => by obtain rfl := h0; exact (qback_any _ y _ (ke1.drew.below hb) ly).mono fun e w3 h => RetQ.pd h hb.size)) ?_
          refine And.intro (ob_call2 rfl Tryz.func60 (by kernel_rfl) (wt_none rfl) (ev_dep (j := 3) (by kernel_rfl) rfl rfl) (ev_dep (j := 8) (by kernel_rfl) rfl rfl) (fun w2 u0 u1 hb h0 h1 => by obtain rfl := h0; exact (qsame_any _ _ x y false _ (ke0.drew.below hb) h1.1 HU.out).mono fun e w3 h => RetV.pd h)) ?_
          refine And.intro (ob_un rfl (wt_none rfl) (ev_dep (j := 9) (by kernel_rfl) rfl rfl) (fun _ => un_not _ _) (fun _ => rfl)) ?_
          trivial
        case done2 =>
          refine fun w2 hb2 v0 h0 v1 h1 v2 h2 v3 h3 v4 h4 v5 h5 v6 h6 v7 h7 v8 h8 v9 h9 v10 h10 b hbf => ?_
          obtain rfl := h0; obtain rfl := h1; obtain rfl := h2; obtain rfl := h3; obtain rfl := h4; obtain rfl := h5; obtain rfl := h6; obtain rfl := h7; obtain rfl := h9; obtain rfl := h10
          obtain ⟨q8, f8⟩ := h8
          simp only [Act.put, List.setIfInBounds_toArray, List.set_cons_zero, List.set_cons_succ] at hbf
          subst hbf
          replace bb := bb.trans (hb2.mono bb.size)
          have hsz2 := bb.size
          have s_8 := sB
          refine any_done (by kernel_rfl) ?_
          go_wp2
          go_ret
          exact ⟨by rw [HW.out]; rfl, bb⟩
    · have HW : Hid (t = 1) := by
        show _ = _
        rw [HT.out, if_pos]
        have := HA.out
        rwa [List.take_of_length_le (by omega), List.take_of_length_le (by have := HE.out; omega)] at this
      go_wp2
      go_ret
      exact ⟨by rw [HW.out]; rfl, bb⟩
set_option linter.unusedSimpArgs false
theorem wideq_at {t : List (List Rat)} {r : List Rat} (h : t[0]? = some r) : wideq t = r.length := by
  cases t with
  | nil => simp at h
  | cons s t =>
    obtain rfl : s = r := by simpa using h
    rfl
set_option maxHeartbeats 1600000 in
set_option maxRecDepth 100000 in
theorem msize_any (a0 : Value) (t : List (List Rat)) (w : World) (h0 : SlT .u64 4294967296 w a0 t) :
    Calls Tryz.prog 8 #[a0] w (RetV (.tuple #[.int .i64 ((t.length : Nat) : Int), .int .i64 ((wideq t : Nat) : Int)]) w) := by
  have bb : Below w.heap.size w w := Below.refl _ _
  have st0 := h0
  obtain ⟨A0, c0, rfl, hc0, hm0⟩ := h0.shape
  unfold maxLen at hm0
  go_enter Tryz.func8, Tryz.ntmps8
  go_upto_region 1 with (fail)
  have hsz0 := bb.size
  by_cases hn : t = []
  · subst hn
    have HE : Hid ((((([] : List (List Rat)).length : Nat) : Int) == 0) = true) := rfl
    have sB := bb.size
    refine flowp 3 [Pd.eq (.slice A0 ([] : List (List Rat)).length c0), Pd.eq (.int .i64 ((([] : List (List Rat)).length : Nat) : Int)), Pd.eq (.bool true)] (by kernel_rfl) ?ob1 ?done1
    case ob1 =>
      refine And.intro (ob_move rfl (wt_none rfl) (ev_far rfl rfl) (fun _ _ h => h)) ?_
      refine And.intro (ob_len rfl (wt_none rfl) (ev_dep (j := 0) (by kernel_rfl) rfl rfl) (fun _ _ hx => ⟨_, by rw [hx]; exact len_slice Tryz.underlying22 _ _ _ _, rfl⟩)) ?_
      refine And.intro (ob_bin rfl (wt_none rfl) (ev_dep (j := 1) (by kernel_rfl) rfl rfl) (ev_const _) (fun _ _ _ hx hy => ⟨.bool true, by rw [hx, hy, bin_eql_int, HE.out], rfl⟩)) ?_
      trivial
    case done1 =>
      refine fun w12 hb12 v0 h0 v1 h1 v2 h2 b hbf => ?_
      obtain rfl := h0; obtain rfl := h1; obtain rfl := h2
      simp only [Act.put, List.setIfInBounds_toArray, List.set_cons_zero, List.set_cons_succ] at hbf
      subst hbf
      replace bb := bb.trans (hb12.mono bb.size)
      have hsz12 := bb.size
      refine ops_done ?_
      go_wp2
      go_ret2
      exact ⟨rfl, bb⟩
  · have hl0 : 0 < t.length := List.length_pos_iff.2 hn
    obtain ⟨r, hr⟩ : ∃ r, t[0]? = some r := ⟨_, List.getElem?_eq_getElem hl0⟩
    have HE : Hid ((((t.length : Nat) : Int) == 0) = false) := by show _ = _; rw [beq_eq_false_iff_ne]; omega
    have HW : Hid (r.length = wideq t) := (wideq_at hr).symm
    obtain ⟨ad0, rfl⟩ := st0.place hn
    obtain ⟨Arr, crr, hir, ewr, srr⟩ := st0.at2 hr
    clear hr
    have sB := bb.size
    refine flowp 3 [Pd.eq (.slice (some ad0) t.length c0), Pd.eq (.int .i64 ((t.length : Nat) : Int)), Pd.eq (.bool false)] (by kernel_rfl) ?ob2 ?done2
    case ob2 =>
      refine And.intro (ob_move rfl (wt_none rfl) (ev_far rfl rfl) (fun _ _ h => h)) ?_
      refine And.intro (ob_len rfl (wt_none rfl) (ev_dep (j := 0) (by kernel_rfl) rfl rfl) (fun _ _ hx => ⟨_, by rw [hx]; exact len_slice Tryz.underlying22 _ _ _ _, rfl⟩)) ?_
      refine And.intro (ob_bin rfl (wt_none rfl) (ev_dep (j := 1) (by kernel_rfl) rfl rfl) (ev_const _) (fun _ _ _ hx hy => ⟨.bool false, by rw [hx, hy, bin_eql_int, HE.out], rfl⟩)) ?_
      trivial
    case done2 =>
      refine fun w12 hb12 v0 h0 v1 h1 v2 h2 b hbf => ?_
      obtain rfl := h0; obtain rfl := h1; obtain rfl := h2
      simp only [Act.put, List.setIfInBounds_toArray, List.set_cons_zero, List.set_cons_succ] at hbf
      subst hbf
      replace bb := bb.trans (hb12.mono bb.size)
      have hsz12 := bb.size
      refine ops_done ?_
      have ecr := (bb.cell (World.block_lt_of_cell? w _ ewr)).trans ewr
      have sB := bb.size
      go_upto_region 3 with (fail)
      refine flow 8 [Pd.eq (.slice (some ad0) t.length c0), Pd.eq (.int .i64 ((t.length : Nat) : Int)), Pd.eq (.slice (some ad0) t.length c0), Pd.eq (.pointer (some (ad0.add 0))), Pd.eq (.slice Arr r.length crr), Pd.eq (.int .i64 ((r.length : Nat) : Int)), Pd.eq (.int .i64 ((t.length : Nat) : Int)), Pd.eq (.int .i64 ((r.length : Nat) : Int))] (by kernel_rfl) (by kernel_rfl) ?ob3 ?done3
      case ob3 =>
        refine And.intro (ob_move rfl (wt_none rfl) (ev_far rfl rfl) (fun _ _ h => h)) ?_
        refine And.intro (ob_len rfl (wt_none rfl) (ev_dep (j := 0) (by kernel_rfl) rfl rfl) (fun _ _ hx => ⟨_, by rw [hx]; exact len_slice Tryz.underlying22 _ _ _ _, rfl⟩)) ?_
        refine And.intro (ob_move rfl (wt_none rfl) (ev_far rfl rfl) (fun _ _ h => h)) ?_
        refine And.intro (ob_indexAddr rfl (wt_none rfl) (ev_dep (j := 2) (by kernel_rfl) rfl rfl) (ev_const _) (fun _ _ _ hx hy => ⟨_, by rw [hx, hy]; exact index1_any (k := 0) Tryz.underlying22 (by kernel_rfl) ad0 hir _, rfl⟩)) ?_
        refine And.intro (ob_load rfl (wt_none rfl) (ev_dep (j := 3) (by kernel_rfl) rfl rfl) (fun w2 hb => run_load1 Tryz.underlying39 rfl ((hb.cell (World.block_lt_of_cell? w12 _ ecr)).trans ecr)) (fun _ _ => rfl)) ?_
        refine And.intro (ob_len rfl (wt_none rfl) (ev_dep (j := 4) (by kernel_rfl) rfl rfl) (fun _ _ hx => ⟨_, by rw [hx]; exact len_slice Tryz.underlying39 _ _ _ _, rfl⟩)) ?_
        refine And.intro (ob_assign rfl (wt_none rfl) (ev_dep (j := 1) (by kernel_rfl) rfl rfl) (fun _ _ h => h)) ?_
        refine And.intro (ob_assign rfl (wt_none rfl) (ev_dep (j := 5) (by kernel_rfl) rfl rfl) (fun _ _ h => h)) ?_
        trivial
      case done3 =>
        refine fun w13 hb13 v0 h0 v1 h1 v2 h2 v3 h3 v4 h4 v5 h5 v6 h6 v7 h7 b hbf => ?_
        obtain rfl := h0; obtain rfl := h1; obtain rfl := h2; obtain rfl := h3; obtain rfl := h4; obtain rfl := h5; obtain rfl := h6; obtain rfl := h7
        simp only [Act.put, List.setIfInBounds_toArray, List.set_cons_zero, List.set_cons_succ] at hbf
        subst hbf
        replace bb := bb.trans (hb13.mono bb.size)
        have hsz13 := bb.size
        refine any_done (by kernel_rfl) ?_
        go_wp2
        go_ret2
        exact ⟨by rw [HW.out]; rfl, bb⟩
set_option maxHeartbeats 1600000 in
set_option maxRecDepth 100000 in
theorem rwide_any (a0 : Value) (t : List (List Rat)) (w : World) (h0 : SlT .i64 10000 w a0 t) :
    Calls Tryz.prog 12 #[a0] w (RetV (.int .i64 ((wideq t : Nat) : Int)) w) := by
  have bb : Below w.heap.size w w := Below.refl _ _
  have st0 := h0
  obtain ⟨A0, c0, rfl, hc0, hm0⟩ := h0.shape
  unfold maxLen at hm0
  go_enter Tryz.func12, Tryz.ntmps12
  go_upto_region 1 with (fail)
  have hsz0 := bb.size
  by_cases hn : t = []
  · subst hn
    have HE : Hid ((((([] : List (List Rat)).length : Nat) : Int) == 0) = true) := rfl
    have sB := bb.size
    refine flowp 3 [Pd.eq (.slice A0 ([] : List (List Rat)).length c0), Pd.eq (.int .i64 ((([] : List (List Rat)).length : Nat) : Int)), Pd.eq (.bool true)] (by kernel_rfl) ?ob4 ?done4
    case ob4 =>
      refine And.intro (ob_move rfl (wt_none rfl) (ev_far rfl rfl) (fun _ _ h => h)) ?_
      refine And.intro (ob_len rfl (wt_none rfl) (ev_dep (j := 0) (by kernel_rfl) rfl rfl) (fun _ _ hx => ⟨_, by rw [hx]; exact len_slice Tryz.underlying23 _ _ _ _, rfl⟩)) ?_
      refine And.intro (ob_bin rfl (wt_none rfl) (ev_dep (j := 1) (by kernel_rfl) rfl rfl) (ev_const _) (fun _ _ _ hx hy => ⟨.bool true, by rw [hx, hy, bin_eql_int, HE.out], rfl⟩)) ?_
      trivial
    case done4 =>
      refine fun w12 hb12 v0 h0 v1 h1 v2 h2 b hbf => ?_
      obtain rfl := h0; obtain rfl := h1; obtain rfl := h2
      simp only [Act.put, List.setIfInBounds_toArray, List.set_cons_zero, List.set_cons_succ] at hbf
      subst hbf
      replace bb := bb.trans (hb12.mono bb.size)
      have hsz12 := bb.size
      refine ops_done ?_
      go_wp2
      go_ret
      exact ⟨rfl, bb⟩
  · have hl0 : 0 < t.length := List.length_pos_iff.2 hn
    obtain ⟨r, hr⟩ : ∃ r, t[0]? = some r := ⟨_, List.getElem?_eq_getElem hl0⟩
    have HE : Hid ((((t.length : Nat) : Int) == 0) = false) := by show _ = _; rw [beq_eq_false_iff_ne]; omega
    have HW : Hid (r.length = wideq t) := (wideq_at hr).symm
    obtain ⟨ad0, rfl⟩ := st0.place hn
    obtain ⟨Arr, crr, hir, ewr, srr⟩ := st0.at2 hr
    clear hr
    have sB := bb.size
    refine flowp 3 [Pd.eq (.slice (some ad0) t.length c0), Pd.eq (.int .i64 ((t.length : Nat) : Int)), Pd.eq (.bool false)] (by kernel_rfl) ?ob5 ?done5
    case ob5 =>
      refine And.intro (ob_move rfl (wt_none rfl) (ev_far rfl rfl) (fun _ _ h => h)) ?_
      refine And.intro (ob_len rfl (wt_none rfl) (ev_dep (j := 0) (by kernel_rfl) rfl rfl) (fun _ _ hx => ⟨_, by rw [hx]; exact len_slice Tryz.underlying23 _ _ _ _, rfl⟩)) ?_
      refine And.intro (ob_bin rfl (wt_none rfl) (ev_dep (j := 1) (by kernel_rfl) rfl rfl) (ev_const _) (fun _ _ _ hx hy => ⟨.bool false, by rw [hx, hy, bin_eql_int, HE.out], rfl⟩)) ?_
      trivial
    case done5 =>
      refine fun w12 hb12 v0 h0 v1 h1 v2 h2 b hbf => ?_
      obtain rfl := h0; obtain rfl := h1; obtain rfl := h2
      simp only [Act.put, List.setIfInBounds_toArray, List.set_cons_zero, List.set_cons_succ] at hbf
      subst hbf
      replace bb := bb.trans (hb12.mono bb.size)
      have hsz12 := bb.size
      refine ops_done ?_
      have ecr := (bb.cell (World.block_lt_of_cell? w _ ewr)).trans ewr
      have sB := bb.size
      go_upto_region 3 with (fail)
      refine flowp 5 [Pd.eq (.slice (some ad0) t.length c0), Pd.eq (.pointer (some (ad0.add 0))), Pd.eq (.slice Arr r.length crr), Pd.eq (.int .i64 ((r.length : Nat) : Int)), Pd.eq (.int .i64 ((r.length : Nat) : Int))] (by kernel_rfl) ?ob6 ?done6
      case ob6 =>
        refine And.intro (ob_move rfl (wt_none rfl) (ev_far rfl rfl) (fun _ _ h => h)) ?_
        refine And.intro (ob_indexAddr rfl (wt_none rfl) (ev_dep (j := 0) (by kernel_rfl) rfl rfl) (ev_const _) (fun _ _ _ hx hy => ⟨_, by rw [hx, hy]; exact index1_any (k := 0) Tryz.underlying23 (by kernel_rfl) ad0 hir _, rfl⟩)) ?_
        refine And.intro (ob_load rfl (wt_none rfl) (ev_dep (j := 1) (by kernel_rfl) rfl rfl) (fun w2 hb => run_load1 Tryz.underlying48 rfl ((hb.cell (World.block_lt_of_cell? w12 _ ecr)).trans ecr)) (fun _ _ => rfl)) ?_
        refine And.intro (ob_len rfl (wt_none rfl) (ev_dep (j := 2) (by kernel_rfl) rfl rfl) (fun _ _ hx => ⟨_, by rw [hx]; exact len_slice Tryz.underlying48 _ _ _ _, rfl⟩)) ?_
        refine And.intro (ob_assign rfl (wt_none rfl) (ev_dep (j := 3) (by kernel_rfl) rfl rfl) (fun _ _ h => h)) ?_
        trivial
      case done6 =>
        refine fun w13 hb13 v0 h0 v1 h1 v2 h2 v3 h3 v4 h4 b hbf => ?_
        obtain rfl := h0; obtain rfl := h1; obtain rfl := h2; obtain rfl := h3; obtain rfl := h4
        simp only [Act.put, List.setIfInBounds_toArray, List.set_cons_zero, List.set_cons_succ] at hbf
        subst hbf
        replace bb := bb.trans (hb13.mono bb.size)
        have hsz13 := bb.size
        refine ops_done ?_
        go_wp2
        go_ret
        exact ⟨by rw [HW.out]; rfl, bb⟩
set_option maxHeartbeats 1600000 in
set_option maxRecDepth 100000 in
theorem mfit_any (a0 a1 : Value) (p q : List (List Rat)) (b : Bool) (w : World) (h0 : SlT .u64 4294967296 w a0 p) (h1 : SlT .u64 4294967296 w a1 q) (hb : b = decide (wideq p = q.length)) :
    Calls Tryz.prog 42 #[a0, a1] w (RetV (.bool b) w) := by
  have bb : Below w.heap.size w w := Below.refl _ _
  have st0 := h0
  obtain ⟨A0, c0, rfl, hc0, hm0⟩ := h0.shape
  unfold maxLen at hm0
  have st1 := h1
  obtain ⟨A1, c1, rfl, hc1, hm1⟩ := h1.shape
  unfold maxLen at hm1
  have HB : Hid ((((wideq p : Nat) : Int) == ((q.length : Nat) : Int)) = b) := by
    show _ = _
    rw [hb]
    by_cases h : wideq p = q.length
    · rw [decide_eq_true h, h]; exact beq_self_eq_true _
    · rw [decide_eq_false h, beq_eq_false_iff_ne]; omega
  clear hb
  go_enter Tryz.func42, Tryz.ntmps42
  go_upto_region 1 with (fail)
  have hsz0 := bb.size
  have sB := bb.size
  refine flowp 7 [Pd.eq (.slice A0 p.length c0), Pd.eq (.tuple #[.int .i64 ((p.length : Nat) : Int), .int .i64 ((wideq p : Nat) : Int)]), Pd.eq (.tuple #[.int .i64 ((p.length : Nat) : Int), .int .i64 ((wideq p : Nat) : Int)]), Pd.eq (.int .i64 ((p.length : Nat) : Int)), Pd.eq (.int .i64 ((wideq p : Nat) : Int)), Pd.eq (.int .i64 ((p.length : Nat) : Int)), Pd.eq (.int .i64 ((wideq p : Nat) : Int))] (by kernel_rfl) ?ob7 ?done7
  case ob7 =>
    refine And.intro (ob_move rfl (wt_none rfl) (ev_far rfl rfl) (fun _ _ h => h)) ?_
    refine And.intro (ob_call1 rfl Tryz.func8 (by kernel_rfl) (wt_none rfl) (ev_dep (j := 0) (by kernel_rfl) rfl rfl) (fun w2 u0 hb h0 => by obtain rfl := h0; exact (msize_any _ p _ ((st0.below bb).below hb)).mono fun e w3 h => RetV.pd h)) ?_
    refine And.intro (ob_move rfl (wt_none rfl) (ev_dep (j := 1) (by kernel_rfl) rfl rfl) (fun _ _ h => h)) ?_
    refine And.intro (ob_extract rfl (wt_none rfl) (ev_dep (j := 2) (by kernel_rfl) rfl rfl) (fun w2 u hu => by obtain rfl := hu; exact ⟨_, rfl, rfl⟩)) ?_
    refine And.intro (ob_extract rfl (wt_none rfl) (ev_dep (j := 2) (by kernel_rfl) rfl rfl) (fun w2 u hu => by obtain rfl := hu; exact ⟨_, rfl, rfl⟩)) ?_
    refine And.intro (ob_assign rfl (wt_none rfl) (ev_dep (j := 3) (by kernel_rfl) rfl rfl) (fun _ _ h => h)) ?_
    refine And.intro (ob_assign rfl (wt_none rfl) (ev_dep (j := 4) (by kernel_rfl) rfl rfl) (fun _ _ h => h)) ?_
    trivial
  case done7 =>
    refine fun w11 hb11 v0 h0 v1 h1 v2 h2 v3 h3 v4 h4 v5 h5 v6 h6 b hbf => ?_
    obtain rfl := h0; obtain rfl := h1; obtain rfl := h2; obtain rfl := h3; obtain rfl := h4; obtain rfl := h5; obtain rfl := h6
    simp only [Act.put, List.setIfInBounds_toArray, List.set_cons_zero, List.set_cons_succ] at hbf
    subst hbf
    replace bb := bb.trans (hb11.mono bb.size)
    have hsz11 := bb.size
    refine ops_done ?_
    have sB := bb.size
    go_upto_region 2 with (fail)
    refine flowp 5 [Pd.eq (.int .i64 ((wideq p : Nat) : Int)), Pd.eq (.slice A1 q.length c1), Pd.eq (.int .i64 ((q.length : Nat) : Int)), Pd.eq (.bool b), Pd.eq (.bool b)] (by kernel_rfl) ?ob8 ?done8
    case ob8 =>
      refine And.intro (ob_move rfl (wt_none rfl) (ev_far rfl rfl) (fun _ _ h => h)) ?_
      refine And.intro (ob_move rfl (wt_none rfl) (ev_far rfl rfl) (fun _ _ h => h)) ?_
      refine And.intro (ob_len rfl (wt_none rfl) (ev_dep (j := 1) (by kernel_rfl) rfl rfl) (fun _ _ hx => ⟨_, by rw [hx]; exact len_slice Tryz.underlying22 _ _ _ _, rfl⟩)) ?_
      refine And.intro (ob_bin rfl (wt_none rfl) (ev_dep (j := 0) (by kernel_rfl) rfl rfl) (ev_dep (j := 2) (by kernel_rfl) rfl rfl) (fun _ _ _ hx hy => ⟨.bool b, by rw [hx, hy, bin_eql_int, HB.out], rfl⟩)) ?_
      refine And.intro (ob_assign rfl (wt_none rfl) (ev_dep (j := 3) (by kernel_rfl) rfl rfl) (fun _ _ h => h)) ?_
      trivial
    case done8 =>
      refine fun w12 hb12 v0 h0 v1 h1 v2 h2 v3 h3 v4 h4 b hbf => ?_
      obtain rfl := h0; obtain rfl := h1; obtain rfl := h2; obtain rfl := h3; obtain rfl := h4
      simp only [Act.put, List.setIfInBounds_toArray, List.set_cons_zero, List.set_cons_succ] at hbf
      subst hbf
      replace bb := bb.trans (hb12.mono bb.size)
      have hsz12 := bb.size
      refine ops_done ?_
      go_wp2
      go_ret
      exact ⟨rfl, bb⟩
set_option maxHeartbeats 1600000 in
set_option maxRecDepth 100000 in
theorem malike_any (a0 a1 : Value) (p q : List (List Rat)) (b : Bool) (w : World) (h0 : SlT .u64 4294967296 w a0 p) (h1 : SlT .u64 4294967296 w a1 q) (hb : b = decide (p.length = q.length ∧ wideq p = wideq q)) :
    Calls Tryz.prog 45 #[a0, a1] w (RetV (.bool b) w) := by
  have bb : Below w.heap.size w w := Below.refl _ _
  have st0 := h0
  obtain ⟨A0, c0, rfl, hc0, hm0⟩ := h0.shape
  unfold maxLen at hm0
  have st1 := h1
  obtain ⟨A1, c1, rfl, hc1, hm1⟩ := h1.shape
  unfold maxLen at hm1
  go_enter Tryz.func45, Tryz.ntmps45
  go_upto_region 1 with (fail)
  have hsz0 := bb.size
  have sB := bb.size
  refine flowp 7 [Pd.eq (.slice A0 p.length c0), Pd.eq (.tuple #[.int .i64 ((p.length : Nat) : Int), .int .i64 ((wideq p : Nat) : Int)]), Pd.eq (.tuple #[.int .i64 ((p.length : Nat) : Int), .int .i64 ((wideq p : Nat) : Int)]), Pd.eq (.int .i64 ((p.length : Nat) : Int)), Pd.eq (.int .i64 ((wideq p : Nat) : Int)), Pd.eq (.int .i64 ((p.length : Nat) : Int)), Pd.eq (.int .i64 ((wideq p : Nat) : Int))] (by kernel_rfl) ?ob9 ?done9
  case ob9 =>
    refine And.intro (ob_move rfl (wt_none rfl) (ev_far rfl rfl) (fun _ _ h => h)) ?_
    refine And.intro (ob_call1 rfl Tryz.func8 (by kernel_rfl) (wt_none rfl) (ev_dep (j := 0) (by kernel_rfl) rfl rfl) (fun w2 u0 hb h0 => by obtain rfl := h0; exact (msize_any _ p _ ((st0.below bb).below hb)).mono fun e w3 h => RetV.pd h)) ?_
    refine And.intro (ob_move rfl (wt_none rfl) (ev_dep (j := 1) (by kernel_rfl) rfl rfl) (fun _ _ h => h)) ?_
    refine And.intro (ob_extract rfl (wt_none rfl) (ev_dep (j := 2) (by kernel_rfl) rfl rfl) (fun w2 u hu => by obtain rfl := hu; exact ⟨_, rfl, rfl⟩)) ?_
    refine And.intro (ob_extract rfl (wt_none rfl) (ev_dep (j := 2) (by kernel_rfl) rfl rfl) (fun w2 u hu => by obtain rfl := hu; exact ⟨_, rfl, rfl⟩)) ?_
    refine And.intro (ob_assign rfl (wt_none rfl) (ev_dep (j := 3) (by kernel_rfl) rfl rfl) (fun _ _ h => h)) ?_
    refine And.intro (ob_assign rfl (wt_none rfl) (ev_dep (j := 4) (by kernel_rfl) rfl rfl) (fun _ _ h => h)) ?_
    trivial
  case done9 =>
    refine fun w11 hb11 v0 h0 v1 h1 v2 h2 v3 h3 v4 h4 v5 h5 v6 h6 b hbf => ?_
    obtain rfl := h0; obtain rfl := h1; obtain rfl := h2; obtain rfl := h3; obtain rfl := h4; obtain rfl := h5; obtain rfl := h6
    simp only [Act.put, List.setIfInBounds_toArray, List.set_cons_zero, List.set_cons_succ] at hbf
    subst hbf
    replace bb := bb.trans (hb11.mono bb.size)
    have hsz11 := bb.size
    refine ops_done ?_
    have sB := bb.size
    go_upto_region 2 with (fail)
    refine flowp 7 [Pd.eq (.slice A1 q.length c1), Pd.eq (.tuple #[.int .i64 ((q.length : Nat) : Int), .int .i64 ((wideq q : Nat) : Int)]), Pd.eq (.tuple #[.int .i64 ((q.length : Nat) : Int), .int .i64 ((wideq q : Nat) : Int)]), Pd.eq (.int .i64 ((q.length : Nat) : Int)), Pd.eq (.int .i64 ((wideq q : Nat) : Int)), Pd.eq (.int .i64 ((q.length : Nat) : Int)), Pd.eq (.int .i64 ((wideq q : Nat) : Int))] (by kernel_rfl) ?ob10 ?done10
    case ob10 =>
      refine And.intro (ob_move rfl (wt_none rfl) (ev_far rfl rfl) (fun _ _ h => h)) ?_
      refine And.intro (ob_call1 rfl Tryz.func8 (by kernel_rfl) (wt_none rfl) (ev_dep (j := 0) (by kernel_rfl) rfl rfl) (fun w2 u0 hb h0 => by obtain rfl := h0; exact (msize_any _ q _ ((st1.below bb).below hb)).mono fun e w3 h => RetV.pd h)) ?_
      refine And.intro (ob_move rfl (wt_none rfl) (ev_dep (j := 1) (by kernel_rfl) rfl rfl) (fun _ _ h => h)) ?_
      refine And.intro (ob_extract rfl (wt_none rfl) (ev_dep (j := 2) (by kernel_rfl) rfl rfl) (fun w2 u hu => by obtain rfl := hu; exact ⟨_, rfl, rfl⟩)) ?_
      refine And.intro (ob_extract rfl (wt_none rfl) (ev_dep (j := 2) (by kernel_rfl) rfl rfl) (fun w2 u hu => by obtain rfl := hu; exact ⟨_, rfl, rfl⟩)) ?_
      refine And.intro (ob_assign rfl (wt_none rfl) (ev_dep (j := 3) (by kernel_rfl) rfl rfl) (fun _ _ h => h)) ?_
      refine And.intro (ob_assign rfl (wt_none rfl) (ev_dep (j := 4) (by kernel_rfl) rfl rfl) (fun _ _ h => h)) ?_
      trivial
    case done10 =>
      refine fun w12 hb12 v0 h0 v1 h1 v2 h2 v3 h3 v4 h4 v5 h5 v6 h6 b hbf => ?_
      obtain rfl := h0; obtain rfl := h1; obtain rfl := h2; obtain rfl := h3; obtain rfl := h4; obtain rfl := h5; obtain rfl := h6
      simp only [Act.put, List.setIfInBounds_toArray, List.set_cons_zero, List.set_cons_succ] at hbf
      subst hbf
      replace bb := bb.trans (hb12.mono bb.size)
      have hsz12 := bb.size
      refine ops_done ?_
      by_cases hx : p.length = q.length
      · by_cases hy : wideq p = wideq q
        · have HX : Hid ((((p.length : Nat) : Int) == ((q.length : Nat) : Int)) = true) := by show _ = _; rw [beq_iff_eq]; omega
          have HY : Hid (((((wideq p) : Nat) : Int) == (((wideq q) : Nat) : Int)) = true) := by show _ = _; rw [beq_iff_eq]; omega
          obtain rfl : b = true := by rw [hb]; exact decide_eq_true ⟨hx, hy⟩
          have sB := bb.size
          go_upto_region 3 with (fail)
          refine flowp 9 [Pd.eq (.int .i64 ((p.length : Nat) : Int)), Pd.eq (.int .i64 ((q.length : Nat) : Int)), Pd.eq (.bool true), Pd.eq (.bool true), Pd.eq (.int .i64 ((wideq p : Nat) : Int)), Pd.eq (.int .i64 ((wideq q : Nat) : Int)), Pd.eq (.bool true), Pd.eq (.bool true), Pd.eq (.bool true)] (by kernel_rfl) ?ob13 ?done13
          case ob13 =>
            refine And.intro (ob_move rfl (wt_none rfl) (ev_far rfl rfl) (fun _ _ h => h)) ?_
            refine And.intro (ob_move rfl (wt_none rfl) (ev_far rfl rfl) (fun _ _ h => h)) ?_
            refine And.intro (ob_bin rfl (wt_none rfl) (ev_dep (j := 0) (by kernel_rfl) rfl rfl) (ev_dep (j := 1) (by kernel_rfl) rfl rfl) (fun _ _ _ hx hy => ⟨.bool true, by rw [hx, hy, bin_eql_int, HX.out], rfl⟩)) ?_
            refine And.intro (ob_move rfl (wt_none rfl) (ev_dep (j := 2) (by kernel_rfl) rfl rfl) (fun _ _ h => h)) ?_
            refine And.intro (ob_move rfl (wt_dep (c := true) (b := true) (g := 3) rfl (by kernel_rfl) rfl rfl rfl (by exact fun _ _ h => h)) (ev_far rfl rfl) (fun _ _ h => h)) ?_
            refine And.intro (ob_move rfl (wt_dep (c := true) (b := true) (g := 3) rfl (by kernel_rfl) rfl rfl rfl (by exact fun _ _ h => h)) (ev_far rfl rfl) (fun _ _ h => h)) ?_
            refine And.intro (ob_bin rfl (wt_dep (c := true) (b := true) (g := 3) rfl (by kernel_rfl) rfl rfl rfl (by exact fun _ _ h => h)) (ev_dep (j := 4) (by kernel_rfl) rfl rfl) (ev_dep (j := 5) (by kernel_rfl) rfl rfl) (fun _ _ _ hx hy => ⟨.bool true, by rw [hx, hy, bin_eql_int, HY.out], rfl⟩)) ?_
            refine And.intro (ob_pick (b := true) rfl (wt_none rfl) (ev_dep (j := 3) (by kernel_rfl) rfl rfl) (ev_dep (j := 6) (by kernel_rfl) rfl rfl) (fun _ _ h => h)) ?_
            refine And.intro (ob_assign rfl (wt_none rfl) (ev_dep (j := 7) (by kernel_rfl) rfl rfl) (fun _ _ h => h)) ?_
            trivial
          case done13 =>
            refine fun w14 hb14 v0 h0 v1 h1 v2 h2 v3 h3 v4 h4 v5 h5 v6 h6 v7 h7 v8 h8 b hbf => ?_
            obtain rfl := h0; obtain rfl := h1; obtain rfl := h2; obtain rfl := h3; obtain rfl := h4; obtain rfl := h5; obtain rfl := h6; obtain rfl := h7; obtain rfl := h8
            simp only [Act.put, List.setIfInBounds_toArray, List.set_cons_zero, List.set_cons_succ] at hbf
            subst hbf
            replace bb := bb.trans (hb14.mono bb.size)
            have hsz14 := bb.size
            refine ops_done ?_
            go_wp2
            go_ret
            exact ⟨rfl, bb⟩
        · have HX : Hid ((((p.length : Nat) : Int) == ((q.length : Nat) : Int)) = true) := by show _ = _; rw [beq_iff_eq]; omega
          have HY : Hid (((((wideq p) : Nat) : Int) == (((wideq q) : Nat) : Int)) = false) := by show _ = _; rw [beq_eq_false_iff_ne]; omega
          obtain rfl : b = false := by rw [hb]; exact decide_eq_false fun h => hy h.2
          have sB := bb.size
          go_upto_region 3 with (fail)
          refine flowp 9 [Pd.eq (.int .i64 ((p.length : Nat) : Int)), Pd.eq (.int .i64 ((q.length : Nat) : Int)), Pd.eq (.bool true), Pd.eq (.bool true), Pd.eq (.int .i64 ((wideq p : Nat) : Int)), Pd.eq (.int .i64 ((wideq q : Nat) : Int)), Pd.eq (.bool false), Pd.eq (.bool false), Pd.eq (.bool false)] (by kernel_rfl) ?ob12 ?done12
          case ob12 =>
            refine And.intro (ob_move rfl (wt_none rfl) (ev_far rfl rfl) (fun _ _ h => h)) ?_
            refine And.intro (ob_move rfl (wt_none rfl) (ev_far rfl rfl) (fun _ _ h => h)) ?_
            refine And.intro (ob_bin rfl (wt_none rfl) (ev_dep (j := 0) (by kernel_rfl) rfl rfl) (ev_dep (j := 1) (by kernel_rfl) rfl rfl) (fun _ _ _ hx hy => ⟨.bool true, by rw [hx, hy, bin_eql_int, HX.out], rfl⟩)) ?_
            refine And.intro (ob_move rfl (wt_none rfl) (ev_dep (j := 2) (by kernel_rfl) rfl rfl) (fun _ _ h => h)) ?_
            refine And.intro (ob_move rfl (wt_dep (c := true) (b := true) (g := 3) rfl (by kernel_rfl) rfl rfl rfl (by exact fun _ _ h => h)) (ev_far rfl rfl) (fun _ _ h => h)) ?_
            refine And.intro (ob_move rfl (wt_dep (c := true) (b := true) (g := 3) rfl (by kernel_rfl) rfl rfl rfl (by exact fun _ _ h => h)) (ev_far rfl rfl) (fun _ _ h => h)) ?_
            refine And.intro (ob_bin rfl (wt_dep (c := true) (b := true) (g := 3) rfl (by kernel_rfl) rfl rfl rfl (by exact fun _ _ h => h)) (ev_dep (j := 4) (by kernel_rfl) rfl rfl) (ev_dep (j := 5) (by kernel_rfl) rfl rfl) (fun _ _ _ hx hy => ⟨.bool false, by rw [hx, hy, bin_eql_int, HY.out], rfl⟩)) ?_
            refine And.intro (ob_pick (b := true) rfl (wt_none rfl) (ev_dep (j := 3) (by kernel_rfl) rfl rfl) (ev_dep (j := 6) (by kernel_rfl) rfl rfl) (fun _ _ h => h)) ?_
            refine And.intro (ob_assign rfl (wt_none rfl) (ev_dep (j := 7) (by kernel_rfl) rfl rfl) (fun _ _ h => h)) ?_
            trivial
          case done12 =>
            refine fun w14 hb14 v0 h0 v1 h1 v2 h2 v3 h3 v4 h4 v5 h5 v6 h6 v7 h7 v8 h8 b hbf => ?_
            obtain rfl := h0; obtain rfl := h1; obtain rfl := h2; obtain rfl := h3; obtain rfl := h4; obtain rfl := h5; obtain rfl := h6; obtain rfl := h7; obtain rfl := h8
            simp only [Act.put, List.setIfInBounds_toArray, List.set_cons_zero, List.set_cons_succ] at hbf
            subst hbf
            replace bb := bb.trans (hb14.mono bb.size)
            have hsz14 := bb.size
            refine ops_done ?_
            go_wp2
            go_ret
            exact ⟨rfl, bb⟩
      · have HX : Hid ((((p.length : Nat) : Int) == ((q.length : Nat) : Int)) = false) := by show _ = _; rw [beq_eq_false_iff_ne]; omega
        obtain rfl : b = false := by rw [hb]; exact decide_eq_false fun h => hx h.1
        have sB := bb.size
        go_upto_region 3 with (fail)
        refine flowp 9 [Pd.eq (.int .i64 ((p.length : Nat) : Int)), Pd.eq (.int .i64 ((q.length : Nat) : Int)), Pd.eq (.bool false), Pd.eq (.bool false), Pd.any, Pd.any, Pd.any, Pd.eq (.bool false), Pd.eq (.bool false)] (by kernel_rfl) ?ob11 ?done11
        case ob11 =>
          refine And.intro (ob_move rfl (wt_none rfl) (ev_far rfl rfl) (fun _ _ h => h)) ?_
          refine And.intro (ob_move rfl (wt_none rfl) (ev_far rfl rfl) (fun _ _ h => h)) ?_
          refine And.intro (ob_bin rfl (wt_none rfl) (ev_dep (j := 0) (by kernel_rfl) rfl rfl) (ev_dep (j := 1) (by kernel_rfl) rfl rfl) (fun _ _ _ hx hy => ⟨.bool false, by rw [hx, hy, bin_eql_int, HX.out], rfl⟩)) ?_
          refine And.intro (ob_move rfl (wt_none rfl) (ev_dep (j := 2) (by kernel_rfl) rfl rfl) (fun _ _ h => h)) ?_
          refine And.intro (ob_not (wt_dep (c := false) (b := true) (g := 3) rfl (by kernel_rfl) rfl rfl rfl (by exact fun _ _ h => h)) (fun _ => trivial) rfl) ?_
          refine And.intro (ob_not (wt_dep (c := false) (b := true) (g := 3) rfl (by kernel_rfl) rfl rfl rfl (by exact fun _ _ h => h)) (fun _ => trivial) rfl) ?_
          refine And.intro (ob_not (wt_dep (c := false) (b := true) (g := 3) rfl (by kernel_rfl) rfl rfl rfl (by exact fun _ _ h => h)) (fun _ => trivial) rfl) ?_
          refine And.intro (ob_pick (b := false) rfl (wt_none rfl) (ev_dep (j := 3) (by kernel_rfl) rfl rfl) (ev_const _) (fun _ _ h => h)) ?_
          refine And.intro (ob_assign rfl (wt_none rfl) (ev_dep (j := 7) (by kernel_rfl) rfl rfl) (fun _ _ h => h)) ?_
          trivial
        case done11 =>
          refine fun w14 hb14 v0 h0 v1 h1 v2 h2 v3 h3 v4 h4 v5 h5 v6 h6 v7 h7 v8 h8 b hbf => ?_
          obtain rfl := h0; obtain rfl := h1; obtain rfl := h2; obtain rfl := h3; obtain rfl := h7; obtain rfl := h8
          clear h4
          clear h5
          clear h6
          simp only [Act.put, List.setIfInBounds_toArray, List.set_cons_zero, List.set_cons_succ] at hbf
          subst hbf
          replace bb := bb.trans (hb14.mono bb.size)
          have hsz14 := bb.size
          refine ops_done ?_
          go_wp2
          go_ret
          exact ⟨rfl, bb⟩
set_option maxHeartbeats 3200000 in
set_option maxRecDepth 100000 in
theorem eqt_any (a0 a1 : Value) (p q : List (List Rat)) (b : Bool) (w : World) (h0 : SlT .u64 4294967296 w a0 p) (h1 : SlT .u64 4294967296 w a1 q) (hb : b = decide (p = q)) :
    Calls Tryz.prog 35 #[a0, a1, .func (.func 25) #[] #[]] w (RetV (.bool b) w) := by
  have bb : Below w.heap.size w w := Below.refl _ _
  have st0 := h0
  obtain ⟨A0, c0, rfl, hc0, hm0⟩ := h0.shape
  unfold maxLen at hm0
  have st1 := h1
  obtain ⟨A1, c1, rfl, hc1, hm1⟩ := h1.shape
  unfold maxLen at hm1
  have HB := Lib.hid hb
  clear hb
  go_enter Tryz.func35, Tryz.ntmps35
  go_upto_region 1 with (fail)
  have hsz0 := bb.size
  by_cases he : p.length = q.length
  · have HNE : Hid ((((p.length : Nat) : Int) != ((q.length : Nat) : Int)) = false) := by show _ = _; rw [bne_eq_false_iff_eq]; omega
    have HE := Lib.hid he
    clear he
    have sB := bb.size
    refine flowp 5 [Pd.eq (.slice A0 p.length c0), Pd.eq (.int .i64 ((p.length : Nat) : Int)), Pd.eq (.slice A1 q.length c1), Pd.eq (.int .i64 ((q.length : Nat) : Int)), Pd.eq (.bool false)] (by kernel_rfl) ?ob15 ?done15
    case ob15 =>
      refine And.intro (ob_move rfl (wt_none rfl) (ev_far rfl rfl) (fun _ _ h => h)) ?_
      refine And.intro (ob_len rfl (wt_none rfl) (ev_dep (j := 0) (by kernel_rfl) rfl rfl) (fun _ _ hx => ⟨_, by rw [hx]; exact len_slice Tryz.underlying22 _ _ _ _, rfl⟩)) ?_
      refine And.intro (ob_move rfl (wt_none rfl) (ev_far rfl rfl) (fun _ _ h => h)) ?_
      refine And.intro (ob_len rfl (wt_none rfl) (ev_dep (j := 2) (by kernel_rfl) rfl rfl) (fun _ _ hx => ⟨_, by rw [hx]; exact len_slice Tryz.underlying22 _ _ _ _, rfl⟩)) ?_
      refine And.intro (ob_bin rfl (wt_none rfl) (ev_dep (j := 1) (by kernel_rfl) rfl rfl) (ev_dep (j := 3) (by kernel_rfl) rfl rfl) (fun _ _ _ hx hy => ⟨.bool false, by rw [hx, hy, bin_neq_int, HNE.out], rfl⟩)) ?_
      trivial
    case done15 =>
      refine fun w12 hb12 v0 h0 v1 h1 v2 h2 v3 h3 v4 h4 b hbf => ?_
      obtain rfl := h0; obtain rfl := h1; obtain rfl := h2; obtain rfl := h3; obtain rfl := h4
      simp only [Act.put, List.setIfInBounds_toArray, List.set_cons_zero, List.set_cons_succ] at hbf
      subst hbf
      replace bb := bb.trans (hb12.mono bb.size)
      have hsz12 := bb.size
      refine ops_done ?_
      go_wp2
      go_loopw [17] (fun v17 wr => ∃ k : Nat, k ≤ p.length ∧ Hid (p.take k = q.take k) ∧ Below w.heap.size w wr ∧ v17 = .int .i64 (k : Int)) (fun v17 _ => p.length - (intOf v17).toNat)
      case atStart => exact ⟨0, by omega, rfl, bb, rfl⟩
      case round =>
        obtain ⟨k, hk, HA, hbw, rfl⟩ := hrel
        clear bb
        have bb := hbw
        clear hbw
        have hszr := bb.size
        by_cases hlt : k < p.length
        · have hlt2 : k < q.length := by have := HE.out; omega
          have hnp : p ≠ [] := List.length_pos_iff.1 (by omega)
          have hnq : q ≠ [] := List.length_pos_iff.1 (by omega)
          obtain ⟨x, hx⟩ : ∃ x, p[k]? = some x := ⟨_, List.getElem?_eq_getElem hlt⟩
          obtain ⟨y, hy⟩ : ∃ y, q[k]? = some y := ⟨_, List.getElem?_eq_getElem hlt2⟩
          have HX := Lib.hid hx
          have HY := Lib.hid hy
          obtain ⟨ad0, rfl⟩ := st0.place hnp
          obtain ⟨ad1, rfl⟩ := st1.place hnq
          obtain ⟨Arx, crx, hix, ewx, srx⟩ := st0.at2 hx
          obtain ⟨Ary, cry, hiy, ewy, sry⟩ := st1.at2 hy
          clear hx hy
          have ecx := (bb.cell (World.block_lt_of_cell? w _ ewx)).trans ewx
          have ecy := (bb.cell (World.block_lt_of_cell? w _ ewy)).trans ewy
          have sB := bb.size
          go_upto_region 5 with (fail)
          refine flowp 5 [Pd.eq (.int .i64 (k : Int)), Pd.eq (.pointer (some (ad0.add k))), Pd.eq (.slice Arx x.length crx), Pd.eq (.int .i64 (k : Int)), Pd.eq (.slice Arx x.length crx)] (by kernel_rfl) ?ob16 ?done16
          case ob16 =>
            refine And.intro (ob_move rfl (wt_none rfl) (ev_far rfl rfl) (fun _ _ h => h)) ?_
            refine And.intro (ob_indexAddr rfl (wt_none rfl) (ev_far rfl rfl) (ev_far rfl rfl) (fun _ _ _ hx hy => ⟨_, by rw [hx, hy]; exact index1_any (k := k) Tryz.underlying22 (by kernel_rfl) ad0 hlt _, rfl⟩)) ?_
            refine And.intro (ob_load rfl (wt_none rfl) (ev_dep (j := 1) (by kernel_rfl) rfl rfl) (fun w2 hb => run_load1 Tryz.underlying39 rfl ((hb.cell (World.block_lt_of_cell? wr _ ecx)).trans ecx)) (fun _ _ => rfl)) ?_
            refine And.intro (ob_assign rfl (wt_none rfl) (ev_dep (j := 0) (by kernel_rfl) rfl rfl) (fun _ _ h => h)) ?_
            refine And.intro (ob_assign rfl (wt_none rfl) (ev_dep (j := 2) (by kernel_rfl) rfl rfl) (fun _ _ h => h)) ?_
            trivial
          case done16 =>
            refine fun w14 hb14 v0 h0 v1 h1 v2 h2 v3 h3 v4 h4 b hbf => ?_
            obtain rfl := h0; obtain rfl := h1; obtain rfl := h2; obtain rfl := h3; obtain rfl := h4
            simp only [Act.put, List.setIfInBounds_toArray, List.set_cons_zero, List.set_cons_succ] at hbf
            subst hbf
            replace bb := bb.trans (hb14.mono bb.size)
            have hsz14 := bb.size
            refine ops_done ?_
            clear ecx ecy
            have ecy := (bb.cell (World.block_lt_of_cell? w _ ewy)).trans ewy
            have sB := bb.size
            go_upto_region 6 with (fail)
            refine flowp 5 [Pd.eq (.slice (some ad1) q.length c1), Pd.eq (.int .i64 (k : Int)), Pd.eq (.pointer (some (ad1.add k))), Pd.eq (.slice Ary y.length cry), Pd.eq (.slice Ary y.length cry)] (by kernel_rfl) ?ob17 ?done17
            case ob17 =>
              refine And.intro (ob_move rfl (wt_none rfl) (ev_far rfl rfl) (fun _ _ h => h)) ?_
              refine And.intro (ob_move rfl (wt_none rfl) (ev_far rfl rfl) (fun _ _ h => h)) ?_
              refine And.intro (ob_indexAddr rfl (wt_none rfl) (ev_dep (j := 0) (by kernel_rfl) rfl rfl) (ev_dep (j := 1) (by kernel_rfl) rfl rfl) (fun _ _ _ hx hy => ⟨_, by rw [hx, hy]; exact index1_any (k := k) Tryz.underlying22 (by kernel_rfl) ad1 hlt2 _, rfl⟩)) ?_
              refine And.intro (ob_load rfl (wt_none rfl) (ev_dep (j := 2) (by kernel_rfl) rfl rfl) (fun w2 hb => run_load1 Tryz.underlying39 rfl ((hb.cell (World.block_lt_of_cell? w14 _ ecy)).trans ecy)) (fun _ _ => rfl)) ?_
              refine And.intro (ob_assign rfl (wt_none rfl) (ev_dep (j := 3) (by kernel_rfl) rfl rfl) (fun _ _ h => h)) ?_
              trivial
            case done17 =>
              refine fun w15 hb15 v0 h0 v1 h1 v2 h2 v3 h3 v4 h4 b hbf => ?_
              obtain rfl := h0; obtain rfl := h1; obtain rfl := h2; obtain rfl := h3; obtain rfl := h4
              simp only [Act.put, List.setIfInBounds_toArray, List.set_cons_zero, List.set_cons_succ] at hbf
              subst hbf
              replace bb := bb.trans (hb15.mono bb.size)
              have hsz15 := bb.size
              refine ops_done ?_
              obtain ⟨u, hu⟩ : ∃ u, u = decide (x = y) := ⟨_, rfl⟩
              have HU := Lib.hid hu
              by_cases hxy : x = y
              · have HA2 : Hid (p.take (k + 1) = q.take (k + 1)) := by show _ = _; rw [List.take_add_one, List.take_add_one, HX.out, HY.out, HA.out, hxy]
                rw [decide_eq_true hxy] at hu
                subst hu
                clear hxy
                have sB := bb.size
                go_upto_region 7 with (fail)
                refine flowp 5 [Pd.eq (.func (.func 25) #[] #[]), Pd.eq (.slice Arx x.length crx), Pd.eq (.slice Ary y.length cry), Pd.eq (.bool true), Pd.eq (.bool false)] (by kernel_rfl) ?ob18 ?done18
                case ob18 =>
                  refine And.intro (ob_move rfl (wt_none rfl) (ev_far rfl rfl) (fun _ _ h => h)) ?_
                  refine And.intro (ob_move rfl (wt_none rfl) (ev_far rfl rfl) (fun _ _ h => h)) ?_
                  refine And.intro (ob_move rfl (wt_none rfl) (ev_far rfl rfl) (fun _ _ h => h)) ?_
                  refine And.intro (ob_callv2 rfl (ev_dep (j := 0) (by kernel_rfl) rfl rfl) Tryz.func25 (by kernel_rfl) (wt_none rfl) (ev_dep (j := 1) (by kernel_rfl) rfl rfl) (ev_dep (j := 2) (by kernel_rfl) rfl rfl) (fun w2 u0 u1 hb h0 h1 => by obtain rfl := h0; obtain rfl := h1; exact (fvsame_gen _ _ x y true _ ((srx.below bb).below hb) ((sry.below bb).below hb) HU.out).mono fun e w3 h => RetV.pd h)) ?_
                  refine And.intro (ob_un rfl (wt_none rfl) (ev_dep (j := 3) (by kernel_rfl) rfl rfl) (fun _ => un_not _ _) (fun _ => rfl)) ?_
                  trivial
                case done18 =>
                  refine fun w17 hb17 v0 h0 v1 h1 v2 h2 v3 h3 v4 h4 b hbf => ?_
                  obtain rfl := h0; obtain rfl := h1; obtain rfl := h2; obtain rfl := h3; obtain rfl := h4
                  simp only [Act.put, List.setIfInBounds_toArray, List.set_cons_zero, List.set_cons_succ] at hbf
                  subst hbf
                  replace bb := bb.trans (hb17.mono bb.size)
                  have hsz17 := bb.size
                  refine ops_done ?_
                  have hsk : p.length - (k + 1) < p.length - k := by omega
                  go_wp2
                  go_roundw
                  case rel => exact ⟨k + 1, by omega, HA2, bb, by go_num⟩
                  case measure => simp [intOf]; omega
              · have HW : Hid (b = false) := by
                  show _ = _
                  rw [HB.out]
                  refine decide_eq_false fun e => ?_
                  have h0 := HX.out
                  rw [e, HY.out] at h0
                  exact hxy (Option.some.inj h0).symm
                rw [decide_eq_false hxy] at hu
                subst hu
                clear hxy
                have sB := bb.size
                go_upto_region 7 with (fail)
                refine flowp 5 [Pd.eq (.func (.func 25) #[] #[]), Pd.eq (.slice Arx x.length crx), Pd.eq (.slice Ary y.length cry), Pd.eq (.bool false), Pd.eq (.bool true)] (by kernel_rfl) ?ob19 ?done19
                case ob19 =>
                  refine And.intro (ob_move rfl (wt_none rfl) (ev_far rfl rfl) (fun _ _ h => h)) ?_
                  refine And.intro (ob_move rfl (wt_none rfl) (ev_far rfl rfl) (fun _ _ h => h)) ?_
                  refine And.intro (ob_move rfl (wt_none rfl) (ev_far rfl rfl) (fun _ _ h => h)) ?_
                  refine And.intro (ob_callv2 rfl (ev_dep (j := 0) (by kernel_rfl) rfl rfl) Tryz.func25 (by kernel_rfl) (wt_none rfl) (ev_dep (j := 1) (by kernel_rfl) rfl rfl) (ev_dep (j := 2) (by kernel_rfl) rfl rfl) (fun w2 u0 u1 hb h0 h1 => by obtain rfl := h0; obtain rfl := h1; exact (fvsame_gen _ _ x y false _ ((srx.below bb).below hb) ((sry.below bb).below hb) HU.out).mono fun e w3 h => RetV.pd h)) ?_
                  refine And.intro (ob_un rfl (wt_none rfl) (ev_dep (j := 3) (by kernel_rfl) rfl rfl) (fun _ => un_not _ _) (fun _ => rfl)) ?_
                  trivial
                case done19 =>
                  refine fun w17 hb17 v0 h0 v1 h1 v2 h2 v3 h3 v4 h4 b hbf => ?_
                  obtain rfl := h0; obtain rfl := h1; obtain rfl := h2; obtain rfl := h3; obtain rfl := h4
                  simp only [Act.put, List.setIfInBounds_toArray, List.set_cons_zero, List.set_cons_succ] at hbf
                  subst hbf
                  replace bb := bb.trans (hb17.mono bb.size)
                  have hsz17 := bb.size
                  refine ops_done ?_
                  go_wp2
                  go_ret
                  exact ⟨by rw [HW.out]; rfl, bb⟩
        · have HW : Hid (b = true) := by
            show _ = _
            rw [HB.out]
            have := HA.out
            rw [List.take_of_length_le (by omega), List.take_of_length_le (by have := HE.out; omega)] at this
            exact decide_eq_true this
          go_wp2
          go_ret
          exact ⟨by rw [HW.out]; rfl, bb⟩
  · have HNE : Hid ((((p.length : Nat) : Int) != ((q.length : Nat) : Int)) = true) := by show _ = _; rw [bne_iff_ne]; omega
    have HW : Hid (b = false) := by show _ = _; rw [HB.out]; exact decide_eq_false fun e => he (by rw [e])
    clear he
    have sB := bb.size
    refine flowp 5 [Pd.eq (.slice A0 p.length c0), Pd.eq (.int .i64 ((p.length : Nat) : Int)), Pd.eq (.slice A1 q.length c1), Pd.eq (.int .i64 ((q.length : Nat) : Int)), Pd.eq (.bool true)] (by kernel_rfl) ?ob14 ?done14
    case ob14 =>
      refine And.intro (ob_move rfl (wt_none rfl) (ev_far rfl rfl) (fun _ _ h => h)) ?_
      refine And.intro (ob_len rfl (wt_none rfl) (ev_dep (j := 0) (by kernel_rfl) rfl rfl) (fun _ _ hx => ⟨_, by rw [hx]; exact len_slice Tryz.underlying22 _ _ _ _, rfl⟩)) ?_
      refine And.intro (ob_move rfl (wt_none rfl) (ev_far rfl rfl) (fun _ _ h => h)) ?_
      refine And.intro (ob_len rfl (wt_none rfl) (ev_dep (j := 2) (by kernel_rfl) rfl rfl) (fun _ _ hx => ⟨_, by rw [hx]; exact len_slice Tryz.underlying22 _ _ _ _, rfl⟩)) ?_
      refine And.intro (ob_bin rfl (wt_none rfl) (ev_dep (j := 1) (by kernel_rfl) rfl rfl) (ev_dep (j := 3) (by kernel_rfl) rfl rfl) (fun _ _ _ hx hy => ⟨.bool true, by rw [hx, hy, bin_neq_int, HNE.out], rfl⟩)) ?_
      trivial
    case done14 =>
      refine fun w12 hb12 v0 h0 v1 h1 v2 h2 v3 h3 v4 h4 b hbf => ?_
      obtain rfl := h0; obtain rfl := h1; obtain rfl := h2; obtain rfl := h3; obtain rfl := h4
      simp only [Act.put, List.setIfInBounds_toArray, List.set_cons_zero, List.set_cons_succ] at hbf
      subst hbf
      replace bb := bb.trans (hb12.mono bb.size)
      have hsz12 := bb.size
      refine ops_done ?_
      go_wp2
      go_ret
      exact ⟨by rw [HW.out]; rfl, bb⟩
set_option maxHeartbeats 1600000 in
set_option maxRecDepth 100000 in
theorem msame_any (a0 a1 : Value) (p q : List (List Rat)) (b : Bool) (w : World) (h0 : SlT .u64 4294967296 w a0 p) (h1 : SlT .u64 4294967296 w a1 q) (hb : b = decide (p = q)) :
    Calls Tryz.prog 13 #[a0, a1] w (RetV (.bool b) w) := by
  have bb : Below w.heap.size w w := Below.refl _ _
  have st0 := h0
  obtain ⟨A0, c0, rfl, hc0, hm0⟩ := h0.shape
  unfold maxLen at hm0
  have st1 := h1
  obtain ⟨A1, c1, rfl, hc1, hm1⟩ := h1.shape
  unfold maxLen at hm1
  have HB := Lib.hid hb
  clear hb
  go_enter Tryz.func13, Tryz.ntmps13
  go_upto_region 1 with (fail)
  have hsz0 := bb.size
  have sB := bb.size
  refine flowp 4 [Pd.eq (.slice A0 p.length c0), Pd.eq (.slice A1 q.length c1), Pd.eq (.bool b), Pd.eq (.bool b)] (by kernel_rfl) ?ob20 ?done20
  case ob20 =>
    refine And.intro (ob_move rfl (wt_none rfl) (ev_far rfl rfl) (fun _ _ h => h)) ?_
    refine And.intro (ob_move rfl (wt_none rfl) (ev_far rfl rfl) (fun _ _ h => h)) ?_
    refine And.intro (ob_call3 rfl Tryz.func35 (by kernel_rfl) (wt_none rfl) (ev_dep (j := 0) (by kernel_rfl) rfl rfl) (ev_dep (j := 1) (by kernel_rfl) rfl rfl) (ev_func _) (fun w2 u0 u1 u2 hb h0 h1 h2 => by obtain rfl := h0; obtain rfl := h1; obtain rfl := h2; exact (eqt_any _ _ p q b _ ((st0.below bb).below hb) ((st1.below bb).below hb) HB.out).mono fun e w3 h => RetV.pd h)) ?_
    refine And.intro (ob_assign rfl (wt_none rfl) (ev_dep (j := 2) (by kernel_rfl) rfl rfl) (fun _ _ h => h)) ?_
    trivial
  case done20 =>
    refine fun w11 hb11 v0 h0 v1 h1 v2 h2 v3 h3 b hbf => ?_
    obtain rfl := h0; obtain rfl := h1; obtain rfl := h2; obtain rfl := h3
    simp only [Act.put, List.setIfInBounds_toArray, List.set_cons_zero, List.set_cons_succ] at hbf
    subst hbf
    replace bb := bb.trans (hb11.mono bb.size)
    have hsz11 := bb.size
    refine ops_done ?_
    go_wp2
    go_ret
    exact ⟨rfl, bb⟩
set_option maxHeartbeats 3200000 in
set_option maxRecDepth 100000 in
theorem ist_any (a0 a1 : Value) (p q : List (List Rat)) (b : Int) (w : World) (h0 : SlT .u64 4294967296 w a0 p) (h1 : SlT .i64 10000 w a1 q) (hl : lenT q 30000) (hb : b = if p = q then 1 else 0) :
    Calls Tryz.prog 14 #[a0, a1] w (RetV (.int .i64 b) w) := by
  have bb : Below w.heap.size w w := Below.refl _ _
  have st0 := h0
  obtain ⟨A0, c0, rfl, hc0, hm0⟩ := h0.shape
  unfold maxLen at hm0
  have st1 := h1
  obtain ⟨A1, c1, rfl, hc1, hm1⟩ := h1.shape
  unfold maxLen at hm1
  have HB := Lib.hid hb
  have HLQ := Lib.hid hl
  clear hb hl
  go_enter Tryz.func14, Tryz.ntmps14
  go_upto_region 1 with (fail)
  have hsz0 := bb.size
  by_cases he : p.length = q.length
  · have HNE : Hid ((((p.length : Nat) : Int) != ((q.length : Nat) : Int)) = false) := by show _ = _; rw [bne_eq_false_iff_eq]; omega
    have HE := Lib.hid he
    clear he
    have sB := bb.size
    refine flowp 5 [Pd.eq (.slice A0 p.length c0), Pd.eq (.int .i64 ((p.length : Nat) : Int)), Pd.eq (.slice A1 q.length c1), Pd.eq (.int .i64 ((q.length : Nat) : Int)), Pd.eq (.bool false)] (by kernel_rfl) ?ob22 ?done22
    case ob22 =>
      refine And.intro (ob_move rfl (wt_none rfl) (ev_far rfl rfl) (fun _ _ h => h)) ?_
      refine And.intro (ob_len rfl (wt_none rfl) (ev_dep (j := 0) (by kernel_rfl) rfl rfl) (fun _ _ hx => ⟨_, by rw [hx]; exact len_slice Tryz.underlying22 _ _ _ _, rfl⟩)) ?_
      refine And.intro (ob_move rfl (wt_none rfl) (ev_far rfl rfl) (fun _ _ h => h)) ?_
      refine And.intro (ob_len rfl (wt_none rfl) (ev_dep (j := 2) (by kernel_rfl) rfl rfl) (fun _ _ hx => ⟨_, by rw [hx]; exact len_slice Tryz.underlying23 _ _ _ _, rfl⟩)) ?_
      refine And.intro (ob_bin rfl (wt_none rfl) (ev_dep (j := 1) (by kernel_rfl) rfl rfl) (ev_dep (j := 3) (by kernel_rfl) rfl rfl) (fun _ _ _ hx hy => ⟨.bool false, by rw [hx, hy, bin_neq_int, HNE.out], rfl⟩)) ?_
      trivial
    case done22 =>
      refine fun w12 hb12 v0 h0 v1 h1 v2 h2 v3 h3 v4 h4 b hbf => ?_
      obtain rfl := h0; obtain rfl := h1; obtain rfl := h2; obtain rfl := h3; obtain rfl := h4
      simp only [Act.put, List.setIfInBounds_toArray, List.set_cons_zero, List.set_cons_succ] at hbf
      subst hbf
      replace bb := bb.trans (hb12.mono bb.size)
      have hsz12 := bb.size
      refine ops_done ?_
      go_wp2
      go_loopw [5] (fun v5 wr => ∃ k : Nat, k ≤ p.length ∧ Hid (p.take k = q.take k) ∧ Below w.heap.size w wr ∧ v5 = .int .i64 (k : Int)) (fun v5 _ => p.length - (intOf v5).toNat)
      case atStart => exact ⟨0, by omega, rfl, bb, rfl⟩
      case round =>
        obtain ⟨k, hk, HA, hbw, rfl⟩ := hrel
        clear bb
        have bb := hbw
        clear hbw
        have hszr := bb.size
        by_cases hlt : k < p.length
        · have hlt2 : k < q.length := by have := HE.out; omega
          have hnp : p ≠ [] := List.length_pos_iff.1 (by omega)
          have hnq : q ≠ [] := List.length_pos_iff.1 (by omega)
          obtain ⟨x, hx⟩ : ∃ x, p[k]? = some x := ⟨_, List.getElem?_eq_getElem hlt⟩
          obtain ⟨y, hy⟩ : ∃ y, q[k]? = some y := ⟨_, List.getElem?_eq_getElem hlt2⟩
          have HX := Lib.hid hx
          have HY := Lib.hid hy
          obtain ⟨ad0, rfl⟩ := st0.place hnp
          obtain ⟨ad1, rfl⟩ := st1.place hnq
          obtain ⟨Arx, crx, hix, ewx, srx⟩ := st0.at2 hx
          obtain ⟨Ary, cry, hiy, ewy, sry⟩ := st1.at2 hy
          clear hx hy
          have ecx := (bb.cell (World.block_lt_of_cell? w _ ewx)).trans ewx
          have ecy := (bb.cell (World.block_lt_of_cell? w _ ewy)).trans ewy
          have lq : ∀ z ∈ y, lenQ z 30000 := HLQ.out y (List.mem_of_getElem? HY.out)
          obtain ⟨u, hu⟩ : ∃ u : Int, u = if x = y then 1 else 0 := ⟨_, rfl⟩
          have HU := Lib.hid hu
          by_cases hxy : x = y
          · have HA2 : Hid (p.take (k + 1) = q.take (k + 1)) := by show _ = _; rw [List.take_add_one, List.take_add_one, HX.out, HY.out, HA.out, hxy]
            rw [if_pos hxy] at hu
            subst hu
            clear hxy
            have sB := bb.size
            go_upto_region 6 with (fail)
            refine flow 10 [Pd.eq (.slice (some ad0) p.length c0), Pd.eq (.int .i64 (k : Int)), Pd.eq (.pointer (some (ad0.add k))), Pd.eq (.slice Arx x.length crx), Pd.eq (.slice (some ad1) q.length c1), Pd.eq (.int .i64 (k : Int)), Pd.eq (.pointer (some (ad1.add k))), Pd.eq (.slice Ary y.length cry), Pd.eq (.int .i64 1), Pd.eq (.bool false)] (by kernel_rfl) (by kernel_rfl) ?ob23 ?done23
            case ob23 =>
              refine And.intro (ob_move rfl (wt_none rfl) (ev_far rfl rfl) (fun _ _ h => h)) ?_
              refine And.intro (ob_move rfl (wt_none rfl) (ev_far rfl rfl) (fun _ _ h => h)) ?_
              refine And.intro (ob_indexAddr rfl (wt_none rfl) (ev_dep (j := 0) (by kernel_rfl) rfl rfl) (ev_dep (j := 1) (by kernel_rfl) rfl rfl) (fun _ _ _ hx hy => ⟨_, by rw [hx, hy]; exact index1_any (k := k) Tryz.underlying22 (by kernel_rfl) ad0 hlt _, rfl⟩)) ?_
              refine And.intro (ob_load rfl (wt_none rfl) (ev_dep (j := 2) (by kernel_rfl) rfl rfl) (fun w2 hb => run_load1 Tryz.underlying39 rfl ((hb.cell (World.block_lt_of_cell? wr _ ecx)).trans ecx)) (fun _ _ => rfl)) ?_
              refine And.intro (ob_move rfl (wt_none rfl) (ev_far rfl rfl) (fun _ _ h => h)) ?_
              refine And.intro (ob_move rfl (wt_none rfl) (ev_far rfl rfl) (fun _ _ h => h)) ?_
              refine And.intro (ob_indexAddr rfl (wt_none rfl) (ev_dep (j := 4) (by kernel_rfl) rfl rfl) (ev_dep (j := 5) (by kernel_rfl) rfl rfl) (fun _ _ _ hx hy => ⟨_, by rw [hx, hy]; exact index1_any (k := k) Tryz.underlying23 (by kernel_rfl) ad1 hlt2 _, rfl⟩)) ?_
              refine And.intro (ob_load rfl (wt_none rfl) (ev_dep (j := 6) (by kernel_rfl) rfl rfl) (fun w2 hb => run_load1 Tryz.underlying48 rfl ((hb.cell (World.block_lt_of_cell? wr _ ecy)).trans ecy)) (fun _ _ => rfl)) ?_
              refine And.intro (ob_call2 rfl Tryz.func36 (by kernel_rfl) (wt_none rfl) (ev_dep (j := 3) (by kernel_rfl) rfl rfl) (ev_dep (j := 7) (by kernel_rfl) rfl rfl) (fun w2 u0 u1 hb h0 h1 => by obtain rfl := h0; obtain rfl := h1; exact (is_any _ _ x y 1 _ ((srx.below bb).drew.below hb) ((sry.below bb).drew.below hb) lq HU.out).mono fun e w3 h => RetV.pd h)) ?_
              refine And.intro (ob_bin rfl (wt_none rfl) (ev_dep (j := 8) (by kernel_rfl) rfl rfl) (ev_const _) (fun _ _ _ hx hy => ⟨.bool ((1 : Int) == 0), by rw [hx, hy]; exact bin_eql_int _ _ _ _ _, congrArg Value.bool (by decide)⟩)) ?_
              trivial
            case done23 =>
              refine fun w15 hb15 v0 h0 v1 h1 v2 h2 v3 h3 v4 h4 v5 h5 v6 h6 v7 h7 v8 h8 v9 h9 b hbf => ?_
              obtain rfl := h0; obtain rfl := h1; obtain rfl := h2; obtain rfl := h3; obtain rfl := h4; obtain rfl := h5; obtain rfl := h6; obtain rfl := h7; obtain rfl := h8; obtain rfl := h9
              simp only [Act.put, List.setIfInBounds_toArray, List.set_cons_zero, List.set_cons_succ] at hbf
              subst hbf
              replace bb := bb.trans (hb15.mono bb.size)
              have hsz15 := bb.size
              refine any_done (by kernel_rfl) ?_
              have hsk : p.length - (k + 1) < p.length - k := by omega
              go_wp2
              go_roundw
              case rel => exact ⟨k + 1, by omega, HA2, bb, by go_num⟩
              case measure => simp [intOf]; omega
          · have HW : Hid (b = 0) := by
              show _ = _
              rw [HB.out]
              refine if_neg fun e => ?_
              have h0 := HX.out
              rw [e, HY.out] at h0
              exact hxy (Option.some.inj h0).symm
            rw [if_neg hxy] at hu
            subst hu
            clear hxy
            have sB := bb.size
            go_upto_region 6 with (fail)
            refine flow 10 [Pd.eq (.slice (some ad0) p.length c0), Pd.eq (.int .i64 (k : Int)), Pd.eq (.pointer (some (ad0.add k))), Pd.eq (.slice Arx x.length crx), Pd.eq (.slice (some ad1) q.length c1), Pd.eq (.int .i64 (k : Int)), Pd.eq (.pointer (some (ad1.add k))), Pd.eq (.slice Ary y.length cry), Pd.eq (.int .i64 0), Pd.eq (.bool true)] (by kernel_rfl) (by kernel_rfl) ?ob24 ?done24
            case ob24 =>
              refine And.intro (ob_move rfl (wt_none rfl) (ev_far rfl rfl) (fun _ _ h => h)) ?_
              refine And.intro (ob_move rfl (wt_none rfl) (ev_far rfl rfl) (fun _ _ h => h)) ?_
              refine And.intro (ob_indexAddr rfl (wt_none rfl) (ev_dep (j := 0) (by kernel_rfl) rfl rfl) (ev_dep (j := 1) (by kernel_rfl) rfl rfl) (fun _ _ _ hx hy => ⟨_, by rw [hx, hy]; exact index1_any (k := k) Tryz.underlying22 (by kernel_rfl) ad0 hlt _, rfl⟩)) ?_
              refine And.intro (ob_load rfl (wt_none rfl) (ev_dep (j := 2) (by kernel_rfl) rfl rfl) (fun w2 hb => run_load1 Tryz.underlying39 rfl ((hb.cell (World.block_lt_of_cell? wr _ ecx)).trans ecx)) (fun _ _ => rfl)) ?_
              refine And.intro (ob_move rfl (wt_none rfl) (ev_far rfl rfl) (fun _ _ h => h)) ?_
              refine And.intro (ob_move rfl (wt_none rfl) (ev_far rfl rfl) (fun _ _ h => h)) ?_
              refine And.intro (ob_indexAddr rfl (wt_none rfl) (ev_dep (j := 4) (by kernel_rfl) rfl rfl) (ev_dep (j := 5) (by kernel_rfl) rfl rfl) (fun _ _ _ hx hy => ⟨_, by rw [hx, hy]; exact index1_any (k := k) Tryz.underlying23 (by kernel_rfl) ad1 hlt2 _, rfl⟩)) ?_
              refine And.intro (ob_load rfl (wt_none rfl) (ev_dep (j := 6) (by kernel_rfl) rfl rfl) (fun w2 hb => run_load1 Tryz.underlying48 rfl ((hb.cell (World.block_lt_of_cell? wr _ ecy)).trans ecy)) (fun _ _ => rfl)) ?_
              refine And.intro (ob_call2 rfl Tryz.func36 (by kernel_rfl) (wt_none rfl) (ev_dep (j := 3) (by kernel_rfl) rfl rfl) (ev_dep (j := 7) (by kernel_rfl) rfl rfl) (fun w2 u0 u1 hb h0 h1 => by obtain rfl := h0; obtain rfl := h1; exact (is_any _ _ x y 0 _ ((srx.below bb).drew.below hb) ((sry.below bb).drew.below hb) lq HU.out).mono fun e w3 h => RetV.pd h)) ?_
              refine And.intro (ob_bin rfl (wt_none rfl) (ev_dep (j := 8) (by kernel_rfl) rfl rfl) (ev_const _) (fun _ _ _ hx hy => ⟨.bool ((0 : Int) == 0), by rw [hx, hy]; exact bin_eql_int _ _ _ _ _, congrArg Value.bool (by decide)⟩)) ?_
              trivial
            case done24 =>
              refine fun w15 hb15 v0 h0 v1 h1 v2 h2 v3 h3 v4 h4 v5 h5 v6 h6 v7 h7 v8 h8 v9 h9 b hbf => ?_
              obtain rfl := h0; obtain rfl := h1; obtain rfl := h2; obtain rfl := h3; obtain rfl := h4; obtain rfl := h5; obtain rfl := h6; obtain rfl := h7; obtain rfl := h8; obtain rfl := h9
              simp only [Act.put, List.setIfInBounds_toArray, List.set_cons_zero, List.set_cons_succ] at hbf
              subst hbf
              replace bb := bb.trans (hb15.mono bb.size)
              have hsz15 := bb.size
              refine any_done (by kernel_rfl) ?_
              go_wp2
              go_ret
              exact ⟨by rw [HW.out]; rfl, bb⟩
        · have HW : Hid (b = 1) := by
            show _ = _
            rw [HB.out]
            have := HA.out
            rw [List.take_of_length_le (by omega), List.take_of_length_le (by have := HE.out; omega)] at this
            exact if_pos this
          go_wp2
          go_ret
          exact ⟨by rw [HW.out]; rfl, bb⟩
  · have HNE : Hid ((((p.length : Nat) : Int) != ((q.length : Nat) : Int)) = true) := by show _ = _; rw [bne_iff_ne]; omega
    have HW : Hid (b = 0) := by show _ = _; rw [HB.out]; exact if_neg fun e => he (by rw [e])
    clear he
    have sB := bb.size
    refine flowp 5 [Pd.eq (.slice A0 p.length c0), Pd.eq (.int .i64 ((p.length : Nat) : Int)), Pd.eq (.slice A1 q.length c1), Pd.eq (.int .i64 ((q.length : Nat) : Int)), Pd.eq (.bool true)] (by kernel_rfl) ?ob21 ?done21
    case ob21 =>
      refine And.intro (ob_move rfl (wt_none rfl) (ev_far rfl rfl) (fun _ _ h => h)) ?_
      refine And.intro (ob_len rfl (wt_none rfl) (ev_dep (j := 0) (by kernel_rfl) rfl rfl) (fun _ _ hx => ⟨_, by rw [hx]; exact len_slice Tryz.underlying22 _ _ _ _, rfl⟩)) ?_
      refine And.intro (ob_move rfl (wt_none rfl) (ev_far rfl rfl) (fun _ _ h => h)) ?_
      refine And.intro (ob_len rfl (wt_none rfl) (ev_dep (j := 2) (by kernel_rfl) rfl rfl) (fun _ _ hx => ⟨_, by rw [hx]; exact len_slice Tryz.underlying23 _ _ _ _, rfl⟩)) ?_
      refine And.intro (ob_bin rfl (wt_none rfl) (ev_dep (j := 1) (by kernel_rfl) rfl rfl) (ev_dep (j := 3) (by kernel_rfl) rfl rfl) (fun _ _ _ hx hy => ⟨.bool true, by rw [hx, hy, bin_neq_int, HNE.out], rfl⟩)) ?_
      trivial
    case done21 =>
      refine fun w12 hb12 v0 h0 v1 h1 v2 h2 v3 h3 v4 h4 b hbf => ?_
      obtain rfl := h0; obtain rfl := h1; obtain rfl := h2; obtain rfl := h3; obtain rfl := h4
      simp only [Act.put, List.setIfInBounds_toArray, List.set_cons_zero, List.set_cons_succ] at hbf
      subst hbf
      replace bb := bb.trans (hb12.mono bb.size)
      have hsz12 := bb.size
      refine ops_done ?_
      go_wp2
      go_ret
      exact ⟨by rw [HW.out]; rfl, bb⟩
set_option maxHeartbeats 3200000 in
set_option maxRecDepth 100000 in
theorem evn_any (a0 : Value) (p : List (List Rat)) (b : Bool) (w : World) (h0 : SlT .i64 10000 w a0 p) (hb : b = decide (evenq p)) :
    Calls Tryz.prog 11 #[a0] w (RetV (.bool b) w) := by
  have bb : Below w.heap.size w w := Below.refl _ _
  have st0 := h0
  obtain ⟨A0, c0, rfl, hc0, hm0⟩ := h0.shape
  unfold maxLen at hm0
  have HB := Lib.hid hb
  clear hb
  go_enter Tryz.func11, Tryz.ntmps11
  go_upto_region 1 with (fail)
  have hsz0 := bb.size
  have sB := bb.size
  refine flowp 1 [Pd.eq (.int .i64 0)] (by kernel_rfl) ?ob25 ?done25
  case ob25 =>
    refine And.intro (ob_assign rfl (wt_none rfl) (ev_const _) (fun _ _ h => h)) ?_
    trivial
  case done25 =>
    refine fun w11 hb11 v0 h0 b hbf => ?_
    obtain rfl := h0
    simp only [Act.put, List.setIfInBounds_toArray, List.set_cons_zero, List.set_cons_succ] at hbf
    subst hbf
    replace bb := bb.trans (hb11.mono bb.size)
    have hsz11 := bb.size
    refine ops_done ?_
    go_wp2
    go_loopw [3] (fun v3 wr => ∃ k : Nat, k ≤ p.length ∧ Hid (∀ r ∈ p.take k, r.length = wideq p) ∧ Below w.heap.size w wr ∧ v3 = .int .i64 (k : Int)) (fun v3 _ => p.length - (intOf v3).toNat)
    case atStart => exact ⟨0, by omega, (by show ∀ r ∈ _, _; intro r hr; simp at hr), bb, rfl⟩
    case round =>
      obtain ⟨k, hk, HA, hbw, rfl⟩ := hrel
      clear bb
      have bb := hbw
      clear hbw
      have hszr := bb.size
      by_cases hlt : k < p.length
      · have hnp : p ≠ [] := List.length_pos_iff.1 (by omega)
        obtain ⟨x, hx⟩ : ∃ x, p[k]? = some x := ⟨_, List.getElem?_eq_getElem hlt⟩
        obtain ⟨y, hy⟩ : ∃ y, p[0]? = some y := ⟨_, List.getElem?_eq_getElem (by omega)⟩
        have HX := Lib.hid hx
        have HY : Hid (wideq p = y.length) := wideq_at hy
        obtain ⟨ad0, rfl⟩ := st0.place hnp
        obtain ⟨Arx, crx, hix, ewx, srx⟩ := st0.at2 hx
        obtain ⟨Ary, cry, hiy, ewy, sry⟩ := st0.at2 hy
        clear hx hy
        have ecx := (bb.cell (World.block_lt_of_cell? w _ ewx)).trans ewx
        have ecy := (bb.cell (World.block_lt_of_cell? w _ ewy)).trans ewy
        by_cases hxy : x.length = y.length
        · have HA2 : Hid (∀ r ∈ p.take (k + 1), r.length = wideq p) := by
            show ∀ r ∈ _, _
            intro r hr
            rw [List.take_add_one, HX.out] at hr
            rcases List.mem_append.1 hr with hr | hr
            · exact HA.out r hr
            · obtain rfl : r = x := by simpa using hr
              rw [HY.out, hxy]
          have HNE : Hid ((((x.length : Nat) : Int) != ((y.length : Nat) : Int)) = false) := by show _ = _; rw [bne_eq_false_iff_eq]; omega
          have sB := bb.size
          go_upto_region 4 with (fail)
          refine flow 10 [Pd.eq (.slice (some ad0) p.length c0), Pd.eq (.int .i64 (k : Int)), Pd.eq (.pointer (some (ad0.add k))), Pd.eq (.slice Arx x.length crx), Pd.eq (.int .i64 ((x.length : Nat) : Int)), Pd.eq (.slice (some ad0) p.length c0), Pd.eq (.pointer (some (ad0.add 0))), Pd.eq (.slice Ary y.length cry), Pd.eq (.int .i64 ((y.length : Nat) : Int)), Pd.eq (.bool false)] (by kernel_rfl) (by kernel_rfl) ?ob26 ?done26
          case ob26 =>
            refine And.intro (ob_move rfl (wt_none rfl) (ev_far rfl rfl) (fun _ _ h => h)) ?_
            refine And.intro (ob_move rfl (wt_none rfl) (ev_far rfl rfl) (fun _ _ h => h)) ?_
            refine And.intro (ob_indexAddr rfl (wt_none rfl) (ev_dep (j := 0) (by kernel_rfl) rfl rfl) (ev_dep (j := 1) (by kernel_rfl) rfl rfl) (fun _ _ _ hx hy => ⟨_, by rw [hx, hy]; exact index1_any (k := k) Tryz.underlying23 (by kernel_rfl) ad0 hlt _, rfl⟩)) ?_
            refine And.intro (ob_load rfl (wt_none rfl) (ev_dep (j := 2) (by kernel_rfl) rfl rfl) (fun w2 hb => run_load1 Tryz.underlying48 rfl ((hb.cell (World.block_lt_of_cell? wr _ ecx)).trans ecx)) (fun _ _ => rfl)) ?_
            refine And.intro (ob_len rfl (wt_none rfl) (ev_dep (j := 3) (by kernel_rfl) rfl rfl) (fun _ _ hx => ⟨_, by rw [hx]; exact len_slice Tryz.underlying48 _ _ _ _, rfl⟩)) ?_
            refine And.intro (ob_move rfl (wt_none rfl) (ev_far rfl rfl) (fun _ _ h => h)) ?_
            refine And.intro (ob_indexAddr rfl (wt_none rfl) (ev_dep (j := 5) (by kernel_rfl) rfl rfl) (ev_const _) (fun _ _ _ hx hy => ⟨_, by rw [hx, hy]; exact index1_any (k := 0) Tryz.underlying23 (by kernel_rfl) ad0 hiy _, rfl⟩)) ?_
            refine And.intro (ob_load rfl (wt_none rfl) (ev_dep (j := 6) (by kernel_rfl) rfl rfl) (fun w2 hb => run_load1 Tryz.underlying48 rfl ((hb.cell (World.block_lt_of_cell? wr _ ecy)).trans ecy)) (fun _ _ => rfl)) ?_
            refine And.intro (ob_len rfl (wt_none rfl) (ev_dep (j := 7) (by kernel_rfl) rfl rfl) (fun _ _ hx => ⟨_, by rw [hx]; exact len_slice Tryz.underlying48 _ _ _ _, rfl⟩)) ?_
            refine And.intro (ob_bin rfl (wt_none rfl) (ev_dep (j := 4) (by kernel_rfl) rfl rfl) (ev_dep (j := 8) (by kernel_rfl) rfl rfl) (fun _ _ _ hx hy => ⟨.bool false, by rw [hx, hy, bin_neq_int, HNE.out], rfl⟩)) ?_
            trivial
          case done26 =>
            refine fun w14 hb14 v0 h0 v1 h1 v2 h2 v3 h3 v4 h4 v5 h5 v6 h6 v7 h7 v8 h8 v9 h9 b hbf => ?_
            obtain rfl := h0; obtain rfl := h1; obtain rfl := h2; obtain rfl := h3; obtain rfl := h4; obtain rfl := h5; obtain rfl := h6; obtain rfl := h7; obtain rfl := h8; obtain rfl := h9
            simp only [Act.put, List.setIfInBounds_toArray, List.set_cons_zero, List.set_cons_succ] at hbf
            subst hbf
            replace bb := bb.trans (hb14.mono bb.size)
            have hsz14 := bb.size
            refine any_done (by kernel_rfl) ?_
            have hsk : p.length - (k + 1) < p.length - k := by omega
            go_wp2
            go_roundw
            case rel => exact ⟨k + 1, by omega, HA2, bb, by go_num⟩
            case measure => simp [intOf]; omega
        · have HW : Hid (b = false) := by
            show _ = _
            rw [HB.out]
            exact decide_eq_false fun e => hxy (by rw [e x (List.mem_of_getElem? HX.out), HY.out])
          have HNE : Hid ((((x.length : Nat) : Int) != ((y.length : Nat) : Int)) = true) := by show _ = _; rw [bne_iff_ne]; omega
          have sB := bb.size
          go_upto_region 4 with (fail)
          refine flow 10 [Pd.eq (.slice (some ad0) p.length c0), Pd.eq (.int .i64 (k : Int)), Pd.eq (.pointer (some (ad0.add k))), Pd.eq (.slice Arx x.length crx), Pd.eq (.int .i64 ((x.length : Nat) : Int)), Pd.eq (.slice (some ad0) p.length c0), Pd.eq (.pointer (some (ad0.add 0))), Pd.eq (.slice Ary y.length cry), Pd.eq (.int .i64 ((y.length : Nat) : Int)), Pd.eq (.bool true)] (by kernel_rfl) (by kernel_rfl) ?ob27 ?done27
          case ob27 =>
            refine And.intro (ob_move rfl (wt_none rfl) (ev_far rfl rfl) (fun _ _ h => h)) ?_
            refine And.intro (ob_move rfl (wt_none rfl) (ev_far rfl rfl) (fun _ _ h => h)) ?_
            refine And.intro (ob_indexAddr rfl (wt_none rfl) (ev_dep (j := 0) (by kernel_rfl) rfl rfl) (ev_dep (j := 1) (by kernel_rfl) rfl rfl) (fun _ _ _ hx hy => ⟨_, by rw [hx, hy]; exact index1_any (k := k) Tryz.underlying23 (by kernel_rfl) ad0 hlt _, rfl⟩)) ?_
            refine And.intro (ob_load rfl (wt_none rfl) (ev_dep (j := 2) (by kernel_rfl) rfl rfl) (fun w2 hb => run_load1 Tryz.underlying48 rfl ((hb.cell (World.block_lt_of_cell? wr _ ecx)).trans ecx)) (fun _ _ => rfl)) ?_
            refine And.intro (ob_len rfl (wt_none rfl) (ev_dep (j := 3) (by kernel_rfl) rfl rfl) (fun _ _ hx => ⟨_, by rw [hx]; exact len_slice Tryz.underlying48 _ _ _ _, rfl⟩)) ?_
            refine And.intro (ob_move rfl (wt_none rfl) (ev_far rfl rfl) (fun _ _ h => h)) ?_
            refine And.intro (ob_indexAddr rfl (wt_none rfl) (ev_dep (j := 5) (by kernel_rfl) rfl rfl) (ev_const _) (fun _ _ _ hx hy => ⟨_, by rw [hx, hy]; exact index1_any (k := 0) Tryz.underlying23 (by kernel_rfl) ad0 hiy _, rfl⟩)) ?_
            refine And.intro (ob_load rfl (wt_none rfl) (ev_dep (j := 6) (by kernel_rfl) rfl rfl) (fun w2 hb => run_load1 Tryz.underlying48 rfl ((hb.cell (World.block_lt_of_cell? wr _ ecy)).trans ecy)) (fun _ _ => rfl)) ?_
            refine And.intro (ob_len rfl (wt_none rfl) (ev_dep (j := 7) (by kernel_rfl) rfl rfl) (fun _ _ hx => ⟨_, by rw [hx]; exact len_slice Tryz.underlying48 _ _ _ _, rfl⟩)) ?_
            refine And.intro (ob_bin rfl (wt_none rfl) (ev_dep (j := 4) (by kernel_rfl) rfl rfl) (ev_dep (j := 8) (by kernel_rfl) rfl rfl) (fun _ _ _ hx hy => ⟨.bool true, by rw [hx, hy, bin_neq_int, HNE.out], rfl⟩)) ?_
            trivial
          case done27 =>
            refine fun w14 hb14 v0 h0 v1 h1 v2 h2 v3 h3 v4 h4 v5 h5 v6 h6 v7 h7 v8 h8 v9 h9 b hbf => ?_
            obtain rfl := h0; obtain rfl := h1; obtain rfl := h2; obtain rfl := h3; obtain rfl := h4; obtain rfl := h5; obtain rfl := h6; obtain rfl := h7; obtain rfl := h8; obtain rfl := h9
            simp only [Act.put, List.setIfInBounds_toArray, List.set_cons_zero, List.set_cons_succ] at hbf
            subst hbf
            replace bb := bb.trans (hb14.mono bb.size)
            have hsz14 := bb.size
            refine any_done (by kernel_rfl) ?_
            go_wp2
            go_ret
            exact ⟨by rw [HW.out]; rfl, bb⟩
      · have HW : Hid (b = true) := by
          show _ = _
          rw [HB.out]
          have h := HA.out
          rw [List.take_of_length_le (by omega)] at h
          exact decide_eq_true h
        go_wp2
        go_ret
        exact ⟨by rw [HW.out]; rfl, bb⟩
set_option maxHeartbeats 1600000 in
set_option maxRecDepth 100000 in
theorem mayc_any (a0 : Value) (g n : Nat) (r : List Rat) (b : Bool) (w : World) (h0 : SlF .u64 4294967296 w a0 r) (hB : Blk w g 3 #[.int .i64 (n : Int)]) (hb : b = decide (r.length ≠ n)) :
    Calls Tryz.prog 59 #[a0, .pointer (some ⟨g, 0, none⟩)] w (RetV (.bool b) w) := by
  obtain ⟨A, c, rfl, _⟩ := h0.shape
  have c0 := hB.cell 0
  have HB : Hid ((((r.length : Nat) : Int) != (n : Int)) = b) := by
    show _ = _
    rw [hb]
    by_cases h : r.length = n
    · rw [decide_eq_false (fun k => k h), h]; exact bne_self_eq_false _
    · rw [decide_eq_true h, bne_iff_ne]; omega
  clear hb
  go_enter Tryz.func59, Tryz.ntmps59
  go_wp2
  go_ret
  exact ⟨by rw [← HB.out]; rfl, Below.refl _ _⟩
/-- A number that is below 0 just where b does not hold. -/
def RetIdx (b : Bool) (w : World) (e : Ending) (w' : World) : Prop := ∃ n : Int, e = .returned (.int .i64 n) ∧ decide (0 ≤ n) = b ∧ Below w.heap.size w w'
set_option maxHeartbeats 1600000 in
set_option maxRecDepth 100000 in
theorem mindex_any (a0 : Value) (g n : Nat) (t : List (List Rat)) (b : Bool) (w : World) (h0 : SlT .u64 4294967296 w a0 t) (hB : Blk w g 3 #[.int .i64 (n : Int)]) (hb : b = decide (∃ r ∈ t, r.length ≠ n)) :
    Calls Tryz.prog 86 #[a0, .func (.func 59) #[] #[.pointer (some ⟨g, 0, none⟩)]] w (RetIdx b w) := by
  have st0 := h0
  obtain ⟨A, c, rfl, hc, hm⟩ := h0.shape
  unfold maxLen at hm
  have HB := Lib.hid hb
  clear hb
  go_enter Tryz.func86, Tryz.ntmps86
  go_wp2
  go_loopw [8] (fun v8 wr => ∃ k : Nat, k ≤ t.length ∧ Hid (∀ r ∈ t.take k, r.length = n) ∧ Below w.heap.size w wr ∧ v8 = .int .i64 (k : Int)) (fun v8 _ => t.length - (intOf v8).toNat)
  case atStart => exact ⟨0, by omega, (by show ∀ r ∈ _, _; intro r hr; simp at hr), Below.refl _ _, rfl⟩
  case round =>
    obtain ⟨k, hk, HA, bb, rfl⟩ := hrel
    by_cases hlt : k < t.length
    · have hnt : t ≠ [] := List.length_pos_iff.1 (by omega)
      obtain ⟨x, hx⟩ : ∃ x, t[k]? = some x := ⟨_, List.getElem?_eq_getElem hlt⟩
      have HX := Lib.hid hx
      obtain ⟨ad, rfl⟩ := st0.place hnt
      obtain ⟨Ar, cr, hi, ec, sr⟩ := (st0.below bb).at2 hx
      have hBr := hB.below bb
      clear hx
      obtain ⟨u, hu⟩ : ∃ u, u = decide (x.length ≠ n) := ⟨_, rfl⟩
      go_wp2_with fail
      refine (mayc_any _ g n x u _ sr hBr hu).mono ?_
      rintro e w2 ⟨rfl, b2⟩
      have bb2 := bb.trans (b2.mono bb.size)
      by_cases hxn : x.length = n
      · obtain rfl : u = false := by rw [hu]; exact decide_eq_false fun k => k hxn
        have HA2 : Hid (∀ r ∈ t.take (k + 1), r.length = n) := by
          show ∀ r ∈ _, _
          intro r hr
          rw [List.take_add_one, HX.out] at hr
          rcases List.mem_append.1 hr with hr | hr
          · exact HA.out r hr
          · obtain rfl : r = x := by simpa using hr
            exact hxn
        have hsk : t.length - (k + 1) < t.length - k := by omega
        clear hu ec sr hBr
        go_wp2
        go_roundw
        case rel => exact ⟨k + 1, by omega, HA2, bb2, by go_num⟩
        case measure => simp [intOf]; omega
      · obtain rfl : u = true := by rw [hu]; exact decide_eq_true hxn
        have HW : Hid (b = true) := by
          show _ = _
          rw [HB.out]
          exact decide_eq_true ⟨x, List.mem_of_getElem? HX.out, hxn⟩
        clear hu ec sr hBr
        go_wp2
        go_ret
        exact ⟨(k : Int), rfl, by rw [HW.out]; exact decide_eq_true (by omega), bb2⟩
    · have HW : Hid (b = false) := by
        show _ = _
        rw [HB.out]
        refine decide_eq_false fun h => ?_
        obtain ⟨r, hr, hn⟩ := h
        have h1 := HA.out
        rw [List.take_of_length_le (by omega)] at h1
        exact hn (h1 r hr)
      go_wp2
      go_ret
      exact ⟨-1, rfl, by rw [HW.out]; rfl, bb⟩
set_option maxHeartbeats 1600000 in
set_option maxRecDepth 100000 in
theorem mcontains_any (a0 : Value) (g n : Nat) (t : List (List Rat)) (b : Bool) (w : World) (h0 : SlT .u64 4294967296 w a0 t) (hB : Blk w g 3 #[.int .i64 (n : Int)]) (hb : b = decide (∃ r ∈ t, r.length ≠ n)) :
    Calls Tryz.prog 58 #[a0, .func (.func 59) #[] #[.pointer (some ⟨g, 0, none⟩)]] w (RetV (.bool b) w) := by
  have st0 := h0
  obtain ⟨A, c, rfl, hc, hm⟩ := h0.shape
  unfold maxLen at hm
  go_enter Tryz.func58, Tryz.ntmps58
  go_wp2_with fail
  refine (mindex_any _ g n t b _ st0 hB hb).mono ?_
  rintro e w2 ⟨m, rfl, hm2, b2⟩
  have HM := Lib.hid hm2
  clear hm2 hb
  go_wp2
  go_ret
  exact ⟨by rw [← HM.out]; rfl, b2⟩
set_option maxHeartbeats 1600000 in
set_option maxRecDepth 100000 in
theorem mmay_any (a0 : Value) (t : List (List Rat)) (b : Bool) (w : World) (h0 : SlT .u64 4294967296 w a0 t) (hb : b = decide (mayq t)) :
    Calls Tryz.prog 34 #[a0] w (RetV (.bool b) w) := by
  have st0 := h0
  obtain ⟨A, c, rfl, hc, hm⟩ := h0.shape
  unfold maxLen at hm
  have hwl : wideq t ≤ 9223372036854775807 := by
    by_cases hn : t = []
    · rw [hn]; show 0 ≤ _; omega
    · obtain ⟨r, hr⟩ : ∃ r, t[0]? = some r := ⟨_, List.getElem?_eq_getElem (List.length_pos_iff.2 hn)⟩
      obtain ⟨ad, Ar, cr, _, _, _, sr⟩ := st0.at_ hr
      obtain ⟨_, _, e, h1, h2⟩ := sr.shape
      unfold maxLen at h2
      rw [wideq_at hr]; omega
  have HB := Lib.hid hb
  clear hb
  go_enter Tryz.func34, Tryz.ntmps34
  go_wp2_with fail
  refine (msize_any _ t _ st0).mono ?_
  rintro e w2 ⟨rfl, b2⟩
  have st2 := st0.below b2
  go_upto_region 2 with (fail)
  have bn := Blk.new w2 3 #[.int .i64 ((wideq t : Nat) : Int)]
  have ba := below_alloc (w := w2) (Nat.le_refl _) (.cells #[.int .i64 ((wideq t : Nat) : Int)] 3)
  obtain ⟨g, hg⟩ : ∃ g, g = w2.heap.size := ⟨_, rfl⟩
  obtain ⟨w3, hw3⟩ : ∃ w3, w3 = w2.alloc (.cells #[.int .i64 ((wideq t : Nat) : Int)] 3) := ⟨_, rfl⟩
  rw [← hw3] at bn ba ⊢
  rw [← hg] at bn ⊢
  have bb : Below w.heap.size w w3 := b2.trans (ba.mono b2.size)
  have st3 := st0.below bb
  clear hw3 hg ba b2 st2
  have c0 := bn.cell 0
  have z0 := bn.frozen 0
  by_cases h1 : 200 < t.length
  · have h1' : (200 : Int) < ((t.length : Nat) : Int) := by omega
    have HW : Hid (b = false) := by show _ = _; rw [HB.out]; exact decide_eq_false fun h => by have := h.1; omega
    go_wp2
    go_ret
    exact ⟨by rw [HW.out]; rfl, bb⟩
  · have h1' : ¬ (200 : Int) < ((t.length : Nat) : Int) := by omega
    by_cases h2 : 200 < wideq t
    · have h2' : (200 : Int) < ((wideq t : Nat) : Int) := by omega
      have HW : Hid (b = false) := by show _ = _; rw [HB.out]; exact decide_eq_false fun h => by have := h.2.1; omega
      go_wp2
      go_ret
      exact ⟨by rw [HW.out]; rfl, bb⟩
    · have h2' : ¬ (200 : Int) < ((wideq t : Nat) : Int) := by omega
      obtain ⟨u, hu⟩ : ∃ u, u = decide (∃ r ∈ t, r.length ≠ wideq t) := ⟨_, rfl⟩
      have HW : Hid ((!u) = b) := by
        show _ = _
        rw [HB.out, hu]
        by_cases he : evenq t
        · rw [decide_eq_true (show mayq t from ⟨by omega, by omega, he⟩), decide_eq_false fun h => by obtain ⟨r, hr, hn⟩ := h; exact hn (he r hr)]; rfl
        · have e1 : decide (mayq t) = false := decide_eq_false fun h => he h.2.2
          have e2 : decide (∃ r ∈ t, r.length ≠ wideq t) = true := decide_eq_true (Classical.byContradiction fun h => he fun r hr => Classical.byContradiction fun hn => h ⟨r, hr, hn⟩)
          rw [e1, e2]; rfl
      have HU := Lib.hid hu
      clear hu
      go_wp2_with fail
      refine (mcontains_any _ g (wideq t) t u _ st3 bn HU.out).mono ?_
      rintro e w4 ⟨rfl, b4⟩
      have bb4 := bb.trans (b4.mono bb.size)
      clear c0 z0
      go_wp2
      go_ret
      exact ⟨by rw [← HW.out]; rfl, bb4⟩
theorem SlT.drew {k : IntKind} {B : Nat} {w : World} {v : Value} {t : List (List Rat)} (h : SlT k B w v t) : SlT k B w.drew v t := h.below (Below.refl _ w).drew
theorem ListT.drew {w : World} {v : Value} {ts : List (List (List Rat))} (h : ListT w v ts) : ListT w.drew v ts := h.below (Below.refl _ w).drew
theorem index_tab {P : Program} {t e : TypeId} (hu : P.underlying t = some (.slice e)) (hs : (P.info? e).map (·.size) = some 1) {g n c k : Nat} (hk : k < n) (w : World) : (Instr.indexAt t (.slice (some ⟨g, 0, none⟩) n c) (.int .i64 (k : Int))).run P w = .ok (.pointer (some ⟨g, k, none⟩)) w := by
  have h := index1_any (c := c) hu hs ⟨g, 0, none⟩ hk w
  rw [addr_zero] at h
  exact h
theorem slF_lit1 {k : IntKind} {B : Nat} (w : World) (T : TypeId) {q : Rat} {u t : Value} (h1 : IsS w k u (digs B q.num.natAbs)) (h2 : IsS w k t (digs B q.den)) : SlF k B (w.alloc (.cells #[.bool (ngB q.num), u, t] T)) (.slice (some ⟨w.heap.size, 0, none⟩) 1 1) [q] := by
  have hbb := below_alloc (w := w) (Nat.le_refl _) (.cells #[.bool (ngB q.num), u, t] T)
  have hB := Blk.new w T #[.bool (ngB q.num), u, t]
  refine ⟨[(q, u, t)], rfl, ⟨some ⟨w.heap.size, 0, none⟩, 1, rfl, Nat.le_refl _, by unfold maxLen; omega, fun i p hp => ?_⟩, fun p hp => ?_⟩
  · rcases i with _ | i
    · obtain rfl : ((q, u, t) : Elt) = p := by simpa using hp
      exact ⟨_, _, rfl, hB.cell 0, hB.cell 1, hB.cell 2⟩
    · simp at hp
  · obtain rfl := List.mem_singleton.1 hp
    exact ⟨h1.below hbb, h2.below hbb⟩
/-- A slice of these, of this kind. -/
def psk (k : IntKind) (B : Nat) (qs : List Rat) : Pd := ⟨fun w v => SlF k B w v qs, fun h hb => h.below hb⟩
section
variable {P : Program} {Q : Exit → Act → World → Prop} {ops : Array Oper} {L : List Oper} {Φ : List Pd} {w0 : World} {a0 : Act} {i : Nat} {o : Oper}
theorem ob_lit1 {k : IntKind} {B : Nat} {t T : TypeId} {x : Operand} {q : Rat} {F : World → Value → Prop} (hop : o.op = .buildSlice t 1 #[(0, x)]) (hw : Wt ops L Φ w0 a0 o true) (hx : Ev L Φ w0 a0 o x F) (hu : P.underlying t = some (.slice T)) (hI : ∃ i, P.info? T = some i ∧ i.zero = some (.agg #[.bool false, .slice none 0 0, .slice none 0 0]) ∧ i.size = 3 ∧ i.bytes = 56)
    (hF : ∀ w v, Below w0.heap.size w0 w → F w v → ∃ u t, v = .agg #[.bool (ngB q.num), u, t] ∧ IsS w k u (digs B q.num.natAbs) ∧ IsS w k t (digs B q.den)) (hP : ∀ w v, SlF k B w v [q] → (ph Φ i).p w v) : Ob P Q ops L Φ w0 a0 i o := by
  intro ms w hS
  rw [if_pos (hw ms w hS)]
  obtain ⟨u, t1, hv, h1, h2⟩ := hF _ _ hS.below (hx ms w hS)
  have sl := slF_lit1 w T h1 h2
  have hbb := below_alloc (w := w) (Nat.le_refl _) (.cells #[.bool (ngB q.num), u, t1] T)
  obtain ⟨A1, c1, rfl, _⟩ := id h1
  obtain ⟨A2, c2, rfl, _⟩ := id h2
  obtain ⟨inf, hi, hz, hs, hb⟩ := hI
  have hr : (execOp (putM a0 L ms).eval o).run P w = .ok (.value (.slice (some ⟨w.heap.size, 0, none⟩) 1 1)) (w.alloc (.cells #[.bool (ngB q.num), .slice A1 (digs B q.num.natAbs).length c1, .slice A2 (digs B q.den).length c2] T)) := by
    generalize putM a0 L ms = A at hv
    have hz0 : (zeroValue T).run P w = .ok (.agg #[.bool false, .slice none 0 0, .slice none 0 0]) w := by simp [zeroValue, go_sem, typeInfo, hi, hz]
    simp only [hop, execOp, List.map_toArray, List.map_cons, List.map_nil, hv]
    generalize A.eval = ev
    simp [go_sem, run_underlying hu, sizeOf, typeInfo, hi, newRow, hs, hz0]
  unfold Oper.wp
  rw [hr]
  exact ⟨_, rfl, hbb, hP _ _ sl, fun h => by unfold isA at h; rw [hop] at h; cases h⟩
end
theorem info_vec : ∃ i, Tryz.prog.info? 39 = some i ∧ i.zero = some (.slice none 0 0) ∧ i.size = 1 ∧ i.bytes = 24 := info_parts (P := Tryz.prog) (e := 39) (z := .slice none 0 0) (size := 1) (bytes := 24) (by kernel_rfl)
theorem info_veq : ∃ i, Tryz.prog.info? 48 = some i ∧ i.zero = some (.slice none 0 0) ∧ i.size = 1 ∧ i.bytes = 24 := info_parts (P := Tryz.prog) (e := 48) (z := .slice none 0 0) (size := 1) (bytes := 24) (by kernel_rfl)
theorem addq_zeros (p : List Rat) : addq (zerosq p.length) p = p := by
  refine List.ext_getElem? fun i => ?_
  unfold addq
  rw [List.getElem?_zipWith]
  rcases hp : p[i]? with _ | x
  · cases (zerosq p.length)[i]? <;> rfl
  · rw [zerosq_at (List.getElem?_eq_some_iff.1 hp).1]
    show some (0 + x) = some x
    rw [Rat.zero_add]
/-- What the row holds after m of the two rows were added. -/
def accq (p q : List Rat) : Nat → List Rat
  | 0 => zerosq p.length
  | 1 => p
  | _ => addq p q
theorem accq_len {p q : List Rat} (m : Nat) (h : m < 2 ∨ p.length = q.length) : (accq p q m).length = p.length := by
  match m, h with
  | 0, _ => exact zerosq_len _
  | 1, _ => rfl
  | m + 2, h => exact addq_len (by omega)
theorem accq_step {p q r : List Rat} {m : Nat} (hm : m < 2) (hr : r = if m = 0 then p else q) : addq (accq p q m) r = accq p q (m + 1) := by
  rcases (by omega : m = 0 ∨ m = 1) with rfl | rfl
  · have e : r = p := hr
    rw [e]; exact addq_zeros p
  · have e : r = q := hr
    rw [e]; rfl
set_option maxHeartbeats 6400000 in
set_option maxRecDepth 100000 in
theorem fvadd_gen (a0 : Value) (p q : List Rat) (M : Nat) (w : World) (h0 : Two w a0 p q) (hl : p.length ≤ 200 ∧ (∀ x ∈ p, lenQ x M) ∧ (∀ x ∈ q, lenQ x M) ∧ M ≤ 900) :
    Calls Tryz.prog 24 #[a0] w (fun e w' => (p.length = q.length ∧ RetQLE (addq p q) 0 w e w') ∨ (p.length ≠ q.length ∧ RetNN 8 w e w')) := by
  have bb : Below w.heap.size w w := Below.refl _ _
  obtain ⟨u0, u1, hV, hp, hq⟩ := h0
  obtain ⟨AV, cV, rfl, hcV, hcells⟩ := hV
  obtain ⟨ad, rfl, ec0⟩ := hcells 0 u0 rfl
  obtain ⟨ad', e_, ec1⟩ := hcells 1 u1 rfl
  obtain rfl : ad = ad' := Option.some.inj e_
  clear e_ hcells
  obtain ⟨Ap, cp, rfl, _, _⟩ := hp.shape
  obtain ⟨Aq, cq, rfl, _, _⟩ := hq.shape
  have sl0 := hp
  have sl1 := hq
  have HLE := Lib.hid hl
  have hM9 : M ≤ 900 := hl.2.2.2
  have hl8 : p.length ≤ 200 := hl.1
  have HZL : Hid ((zerosq p.length).length = p.length) := zerosq_len p.length
  clear hl hp hq
  go_enter Tryz.func24, Tryz.ntmps24
  go_upto_region 1 with (fail)
  have hsz0 := bb.size
  have sB := bb.size
  refine flowp 3 [Pd.eq (.slice (some ad) 2 cV), Pd.eq (.int .i64 ((2 : Nat) : Int)), Pd.eq (.bool (((2 : Nat) : Int) == 0))] (by kernel_rfl) ?ob1 ?done1
  case ob1 =>
    refine And.intro (ob_move rfl (wt_none rfl) (ev_far rfl rfl) (fun _ _ h => h)) ?_
    refine And.intro (ob_len rfl (wt_none rfl) (ev_dep (j := 0) (by kernel_rfl) rfl rfl) (fun _ _ hx => ⟨_, by rw [hx]; exact len_slice Tryz.underlying22 _ _ _ _, rfl⟩)) ?_
    refine And.intro (ob_bin rfl (wt_none rfl) (ev_dep (j := 1) (by kernel_rfl) rfl rfl) (ev_const _) (fun _ _ _ hx hy => ⟨.bool (((2 : Nat) : Int) == 0), by rw [hx, hy]; exact bin_eql_int _ _ _ _ _, rfl⟩)) ?_
    trivial
  case done1 =>
    refine fun w1 hb1 v0 h0 v1 h1 v2 h2 b hbf => ?_
    obtain rfl := h0; obtain rfl := h1; obtain rfl := h2
    simp only [Act.put, List.setIfInBounds_toArray, List.set_cons_zero, List.set_cons_succ] at hbf
    subst hbf
    replace bb := bb.trans (hb1.mono bb.size)
    have hsz1 := bb.size
    refine ops_done ?_
    go_wp2
    go_loopw [16] (fun v16 wr => ∃ m : Nat, m ≤ 2 ∧ (m < 2 ∨ p.length = q.length) ∧ Below w.heap.size w wr ∧ v16 = .int .i64 (m : Int)) (fun v16 _ => 2 - (intOf v16).toNat)
    case atStart => exact ⟨0, by omega, by omega, bb, rfl⟩
    case round =>
      obtain ⟨m, hm, hm2, hbw, rfl⟩ := hrel
      clear bb
      have bb := hbw
      clear hbw
      have hszr := bb.size
      by_cases hm3 : m < 2
      · obtain ⟨r, hr⟩ : ∃ r, r = if m = 0 then p else q := ⟨_, rfl⟩
        have HR := Lib.hid hr
        obtain ⟨Ar, cr, ecr, sr⟩ : ∃ Ar cr, w.cell? (ad.add m) = some (.slice Ar r.length cr) ∧ SlF .u64 4294967296 w (.slice Ar r.length cr) r := by
          rcases (by omega : m = 0 ∨ m = 1) with rfl | rfl
          · obtain rfl : r = p := hr
            exact ⟨_, _, ec0, sl0⟩
          · obtain rfl : r = q := hr
            exact ⟨_, _, ec1, sl1⟩
        have ecw := (bb.cell (World.block_lt_of_cell? w _ ecr)).trans ecr
        have heq : r.length = p.length ∨ (r.length ≠ p.length ∧ p.length ≠ q.length) := by
          rw [hr]
          split
          · exact .inl rfl
          · omega
        have hmr : r.length = p.length → (m + 1 < 2 ∨ p.length = q.length) := by
          rw [hr]
          split
          · omega
          · omega
        clear hr
        have sB := bb.size
        go_upto_region 5 with (fail)
        refine flowp 3 [Pd.eq (.pointer (some (ad.add m))), Pd.eq (.slice Ar r.length cr), Pd.eq (.slice Ar r.length cr)] (by kernel_rfl) ?ob2 ?done2
        case ob2 =>
          refine And.intro (ob_indexAddr rfl (wt_none rfl) (ev_far rfl rfl) (ev_far rfl rfl) (fun _ _ _ hx hy => ⟨_, by rw [hx, hy]; exact index1_any (k := m) Tryz.underlying22 (by kernel_rfl) ad (by omega) _, rfl⟩)) ?_
          refine And.intro (ob_load rfl (wt_none rfl) (ev_dep (j := 0) (by kernel_rfl) rfl rfl) (fun w2 hb => run_load1 Tryz.underlying39 rfl ((hb.cell (World.block_lt_of_cell? wr _ ecw)).trans ecw)) (fun _ _ => rfl)) ?_
          refine And.intro (ob_assign rfl (wt_none rfl) (ev_dep (j := 1) (by kernel_rfl) rfl rfl) (fun _ _ h => h)) ?_
          trivial
        case done2 =>
          refine fun w3 hb3 v0 h0 v1 h1 v2 h2 b hbf => ?_
          obtain rfl := h0; obtain rfl := h1; obtain rfl := h2
          simp only [Act.put, List.setIfInBounds_toArray, List.set_cons_zero, List.set_cons_succ] at hbf
          subst hbf
          replace bb := bb.trans (hb3.mono bb.size)
          have hsz3 := bb.size
          refine ops_done ?_
          clear ecw
          have ecw0 := (bb.cell (World.block_lt_of_cell? w _ ec0)).trans ec0
          by_cases hrl : r.length = p.length
          · have HNE : Hid ((((r.length : Nat) : Int) != ((p.length : Nat) : Int)) = false) := by show _ = _; rw [bne_eq_false_iff_eq]; omega
            have HM2 := Lib.hid (hmr hrl)
            clear heq hmr hrl
            have sB := bb.size
            go_upto_region 6 with (fail)
            refine flowp 7 [Pd.eq (.slice Ar r.length cr), Pd.eq (.int .i64 ((r.length : Nat) : Int)), Pd.eq (.slice (some ad) 2 cV), Pd.eq (.pointer (some (ad.add 0))), Pd.eq (.slice Ap p.length cp), Pd.eq (.int .i64 ((p.length : Nat) : Int)), Pd.eq (.bool false)] (by kernel_rfl) ?ob4 ?done4
            case ob4 =>
              refine And.intro (ob_move rfl (wt_none rfl) (ev_far rfl rfl) (fun _ _ h => h)) ?_
              refine And.intro (ob_len rfl (wt_none rfl) (ev_dep (j := 0) (by kernel_rfl) rfl rfl) (fun _ _ hx => ⟨_, by rw [hx]; exact len_slice Tryz.underlying39 _ _ _ _, rfl⟩)) ?_
              refine And.intro (ob_move rfl (wt_none rfl) (ev_far rfl rfl) (fun _ _ h => h)) ?_
              refine And.intro (ob_indexAddr rfl (wt_none rfl) (ev_dep (j := 2) (by kernel_rfl) rfl rfl) (ev_const _) (fun _ _ _ hx hy => ⟨_, by rw [hx, hy]; exact index1_any (k := 0) Tryz.underlying22 (by kernel_rfl) ad (by omega) _, rfl⟩)) ?_
              refine And.intro (ob_load rfl (wt_none rfl) (ev_dep (j := 3) (by kernel_rfl) rfl rfl) (fun w2 hb => run_load1 Tryz.underlying39 rfl ((hb.cell (World.block_lt_of_cell? w3 _ ecw0)).trans ecw0)) (fun _ _ => rfl)) ?_
              refine And.intro (ob_len rfl (wt_none rfl) (ev_dep (j := 4) (by kernel_rfl) rfl rfl) (fun _ _ hx => ⟨_, by rw [hx]; exact len_slice Tryz.underlying39 _ _ _ _, rfl⟩)) ?_
              refine And.intro (ob_bin rfl (wt_none rfl) (ev_dep (j := 1) (by kernel_rfl) rfl rfl) (ev_dep (j := 5) (by kernel_rfl) rfl rfl) (fun _ _ _ hx hy => ⟨.bool false, by rw [hx, hy, bin_neq_int, HNE.out], rfl⟩)) ?_
              trivial
            case done4 =>
              refine fun w5 hb5 v0 h0 v1 h1 v2 h2 v3 h3 v4 h4 v5 h5 v6 h6 b hbf => ?_
              obtain rfl := h0; obtain rfl := h1; obtain rfl := h2; obtain rfl := h3; obtain rfl := h4; obtain rfl := h5; obtain rfl := h6
              simp only [Act.put, List.setIfInBounds_toArray, List.set_cons_zero, List.set_cons_succ] at hbf
              subst hbf
              replace bb := bb.trans (hb5.mono bb.size)
              have hsz5 := bb.size
              refine ops_done ?_
              have hm2' := HM2.out
              go_wp2
              go_roundw
              case rel => exact ⟨m + 1, by omega, hm2', bb, by go_num⟩
              case measure => simp [intOf]; omega
          · have HNE : Hid ((((r.length : Nat) : Int) != ((p.length : Nat) : Int)) = true) := by show _ = _; rw [bne_iff_ne]; omega
            have hno : p.length ≠ q.length := by omega
            have sB := bb.size
            go_upto_region 6 with (fail)
            refine flowp 7 [Pd.eq (.slice Ar r.length cr), Pd.eq (.int .i64 ((r.length : Nat) : Int)), Pd.eq (.slice (some ad) 2 cV), Pd.eq (.pointer (some (ad.add 0))), Pd.eq (.slice Ap p.length cp), Pd.eq (.int .i64 ((p.length : Nat) : Int)), Pd.eq (.bool true)] (by kernel_rfl) ?ob3 ?done3
            case ob3 =>
              refine And.intro (ob_move rfl (wt_none rfl) (ev_far rfl rfl) (fun _ _ h => h)) ?_
              refine And.intro (ob_len rfl (wt_none rfl) (ev_dep (j := 0) (by kernel_rfl) rfl rfl) (fun _ _ hx => ⟨_, by rw [hx]; exact len_slice Tryz.underlying39 _ _ _ _, rfl⟩)) ?_
              refine And.intro (ob_move rfl (wt_none rfl) (ev_far rfl rfl) (fun _ _ h => h)) ?_
              refine And.intro (ob_indexAddr rfl (wt_none rfl) (ev_dep (j := 2) (by kernel_rfl) rfl rfl) (ev_const _) (fun _ _ _ hx hy => ⟨_, by rw [hx, hy]; exact index1_any (k := 0) Tryz.underlying22 (by kernel_rfl) ad (by omega) _, rfl⟩)) ?_
              refine And.intro (ob_load rfl (wt_none rfl) (ev_dep (j := 3) (by kernel_rfl) rfl rfl) (fun w2 hb => run_load1 Tryz.underlying39 rfl ((hb.cell (World.block_lt_of_cell? w3 _ ecw0)).trans ecw0)) (fun _ _ => rfl)) ?_
              refine And.intro (ob_len rfl (wt_none rfl) (ev_dep (j := 4) (by kernel_rfl) rfl rfl) (fun _ _ hx => ⟨_, by rw [hx]; exact len_slice Tryz.underlying39 _ _ _ _, rfl⟩)) ?_
              refine And.intro (ob_bin rfl (wt_none rfl) (ev_dep (j := 1) (by kernel_rfl) rfl rfl) (ev_dep (j := 5) (by kernel_rfl) rfl rfl) (fun _ _ _ hx hy => ⟨.bool true, by rw [hx, hy, bin_neq_int, HNE.out], rfl⟩)) ?_
              trivial
            case done3 =>
              refine fun w5 hb5 v0 h0 v1 h1 v2 h2 v3 h3 v4 h4 v5 h5 v6 h6 b hbf => ?_
              obtain rfl := h0; obtain rfl := h1; obtain rfl := h2; obtain rfl := h3; obtain rfl := h4; obtain rfl := h5; obtain rfl := h6
              simp only [Act.put, List.setIfInBounds_toArray, List.set_cons_zero, List.set_cons_succ] at hbf
              subst hbf
              replace bb := bb.trans (hb5.mono bb.size)
              have hsz5 := bb.size
              refine ops_done ?_
              go_wp2
              go_ret2
              exact .inr ⟨hno, rfl, bb⟩
      · obtain rfl : m = 2 := by omega
        have he : p.length = q.length := by omega
        have HE := Lib.hid he
        clear hm hm2 hm3 he
        have ecw := (bb.cell (World.block_lt_of_cell? w _ ec0)).trans ec0
        have hw1 := bb.size
        have sB := bb.size
        go_upto_region 9 with (fail)
        refine flowp 6 [Pd.eq (.slice (some ad) 2 cV), Pd.eq (.pointer (some (ad.add 0))), Pd.eq (.slice Ap p.length cp), Pd.eq (.int .i64 ((p.length : Nat) : Int)), pro p.length (zerosq p.length) wr.heap.size, pro p.length (zerosq p.length) wr.heap.size] (by kernel_rfl) ?ob5 ?done5
        case ob5 =>
          refine And.intro (ob_move rfl (wt_none rfl) (ev_far rfl rfl) (fun _ _ h => h)) ?_
          refine And.intro (ob_indexAddr rfl (wt_none rfl) (ev_dep (j := 0) (by kernel_rfl) rfl rfl) (ev_const _) (fun _ _ _ hx hy => ⟨_, by rw [hx, hy]; exact index1_any (k := 0) Tryz.underlying22 (by kernel_rfl) ad (by omega) _, rfl⟩)) ?_
          refine And.intro (ob_load rfl (wt_none rfl) (ev_dep (j := 1) (by kernel_rfl) rfl rfl) (fun w2 hb => run_load1 Tryz.underlying39 rfl ((hb.cell (World.block_lt_of_cell? wr _ ecw)).trans ecw)) (fun _ _ => rfl)) ?_
          refine And.intro (ob_len rfl (wt_none rfl) (ev_dep (j := 2) (by kernel_rfl) rfl rfl) (fun _ _ hx => ⟨_, by rw [hx]; exact len_slice Tryz.underlying39 _ _ _ _, rfl⟩)) ?_
          refine And.intro (ob_call1 rfl Tryz.func49 (by kernel_rfl) (wt_none rfl) (ev_dep (j := 3) (by kernel_rfl) rfl rfl) (fun w2 u0 hb h0 => by obtain rfl := h0; exact (noughts_any _ (p.length) _ rfl (by omega)).mono fun e w3 h => RetRo.pd h HZL.out hb.size)) ?_
          refine And.intro (ob_assign rfl (wt_none rfl) (ev_dep (j := 4) (by kernel_rfl) rfl rfl) (fun _ _ h => h)) ?_
          trivial
        case done5 =>
          refine fun w3 hb3 v0 h0 v1 h1 v2 h2 v3 h3 v4 h4 v5 h5 b hbf => ?_
          obtain rfl := h0; obtain rfl := h1; obtain rfl := h2; obtain rfl := h3
          obtain ⟨g, rfl, RN, hg⟩ := h4
          obtain ⟨g, rfl, RN, hg⟩ := h5
          simp only [Act.put, List.setIfInBounds_toArray, List.set_cons_zero, List.set_cons_succ] at hbf
          subst hbf
          replace bb := bb.trans (hb3.mono bb.size)
          have hsz3 := bb.size
          refine ops_done ?_
          clear ecw
          have hgw : w.heap.size ≤ g := by omega
          have RN0 : RowN w3 g p.length (accq p q 0) := RN
          clear RN
          go_wp2
          go_loopw [35] (fun v35 wr => ∃ m : Nat, m ≤ 2 ∧ RowN wr g p.length (accq p q m) ∧ Below w.heap.size w wr ∧ v35 = .int .i64 (m : Int)) (fun v35 _ => 2 - (intOf v35).toNat)
          case atStart => exact ⟨0, by omega, RN0, bb, rfl⟩
          case round =>
            obtain ⟨m, hm, hR, hbw, rfl⟩ := hrel
            clear RN0 bb hszr
            have RN := hR
            have bb := hbw
            clear hR hbw
            have hszr := bb.size
            have hgl := RN.lt
            by_cases hm3 : m < 2
            · obtain ⟨r, hr⟩ : ∃ r, r = if m = 0 then p else q := ⟨_, rfl⟩
              have HR := Lib.hid hr
              obtain ⟨Ar, cr, ecr, sr⟩ : ∃ Ar cr, w.cell? (ad.add m) = some (.slice Ar r.length cr) ∧ SlF .u64 4294967296 w (.slice Ar r.length cr) r := by
                rcases (by omega : m = 0 ∨ m = 1) with rfl | rfl
                · obtain rfl : r = p := hr
                  exact ⟨_, _, ec0, sl0⟩
                · obtain rfl : r = q := hr
                  exact ⟨_, _, ec1, sl1⟩
              have ecw := (bb.cell (World.block_lt_of_cell? w _ ecr)).trans ecr
              have lr : ∀ x ∈ r, lenQ x M := by
                rw [hr]
                split
                · exact HLE.out.2.1
                · exact HLE.out.2.2.1
              have la : ∀ x ∈ accq p q m, lenQ x (M + 1) := by
                rcases (by omega : m = 0 ∨ m = 1) with rfl | rfl
                · exact fun x hx => (lenQ_01 (.inl (zerosq_mem hx))).mono (by omega)
                · exact fun x hx => (HLE.out.2.1 x hx).mono (by omega)
              have HAL : Hid ((accq p q m).length = p.length) := accq_len m (.inr HE.out)
              have HAS : Hid (addq (accq p q m) r = accq p q (m + 1)) := accq_step hm3 hr
              have HRL : Hid (r.length = p.length) := by
                show _ = _
                rw [hr]
                split
                · rfl
                · exact HE.out.symm
              clear hr
              have sB := bb.size
              go_upto_region 12 with (fail)
              refine flowp 3 [Pd.eq (.pointer (some (ad.add m))), Pd.eq (.slice Ar r.length cr), Pd.eq (.slice Ar r.length cr)] (by kernel_rfl) ?ob6 ?done6
              case ob6 =>
                refine And.intro (ob_indexAddr rfl (wt_none rfl) (ev_far rfl rfl) (ev_far rfl rfl) (fun _ _ _ hx hy => ⟨_, by rw [hx, hy]; exact index1_any (k := m) Tryz.underlying22 (by kernel_rfl) ad (by omega) _, rfl⟩)) ?_
                refine And.intro (ob_load rfl (wt_none rfl) (ev_dep (j := 0) (by kernel_rfl) rfl rfl) (fun w2 hb => run_load1 Tryz.underlying39 rfl ((hb.cell (World.block_lt_of_cell? wr _ ecw)).trans ecw)) (fun _ _ => rfl)) ?_
                refine And.intro (ob_assign rfl (wt_none rfl) (ev_dep (j := 1) (by kernel_rfl) rfl rfl) (fun _ _ h => h)) ?_
                trivial
              case done6 =>
                refine fun w5 hb5 v0 h0 v1 h1 v2 h2 b hbf => ?_
                obtain rfl := h0; obtain rfl := h1; obtain rfl := h2
                simp only [Act.put, List.setIfInBounds_toArray, List.set_cons_zero, List.set_cons_succ] at hbf
                subst hbf
                replace RN := RN.below hb5
                replace bb := bb.trans (hb5.mono bb.size)
                have hsz5 := bb.size
                refine ops_done ?_
                clear ecw
                have RN1 : RowN w5 g p.length ((addq (accq p q m) r).take 0 ++ (accq p q m).drop 0) := by rw [List.take_zero, List.drop_zero, List.nil_append]; exact RN
                clear RN
                have HAR : Hid ((addq (accq p q m) r).length = (accq p q m).length) := addq_len (by rw [HAL.out, HRL.out])
                go_wp2
                go_loopw [41] (fun v41 wr => ∃ k : Nat, k ≤ r.length ∧ RowN wr g p.length ((addq (accq p q m) r).take k ++ (accq p q m).drop k) ∧ Below w.heap.size w wr ∧ v41 = .int .i64 (k : Int)) (fun v41 _ => r.length - (intOf v41).toNat)
                case atStart => exact ⟨0, by omega, RN1, bb, rfl⟩
                case round =>
                  obtain ⟨k, hk, hR, hbw, rfl⟩ := hrel
                  clear RN1 bb hszr hgl
                  have RN := hR
                  have bb := hbw
                  clear hR hbw
                  have hszr := bb.size
                  have hgl := RN.lt
                  by_cases hlt2 : k < r.length
                  · have hlp : k < p.length := by have := HRL.out; omega
                    obtain ⟨x, hx⟩ : ∃ x, r[k]? = some x := ⟨_, List.getElem?_eq_getElem hlt2⟩
                    obtain ⟨s, hs⟩ : ∃ s, (accq p q m)[k]? = some s := ⟨_, List.getElem?_eq_getElem (by rw [HAL.out]; exact hlp)⟩
                    have lx : lenQ x M := lr x (List.mem_of_getElem? hx)
                    have ls : lenQ s (M + 1) := la s (List.mem_of_getElem? hs)
                    have HX := Lib.hid hx
                    have HAT : Hid (((addq (accq p q m) r).take k ++ (accq p q m).drop k)[k]? = some s) := front_at hs HAR.out
                    have HSK : Hid ((addq (accq p q m) r)[k]? = some (s + x)) := zip_at hs hx
                    have HFS : Hid (((addq (accq p q m) r).take k ++ (accq p q m).drop k).set k (s + x) = (addq (accq p q m) r).take (k + 1) ++ (accq p q m).drop (k + 1)) := front_set HSK.out HAR.out
                    have HFL : Hid (k < ((addq (accq p q m) r).take k ++ (accq p q m).drop k).length) := by show _ < _; rw [front_len _ _ _ HAR.out, HAL.out]; exact hlp
                    have hne : r ≠ [] := List.length_pos_iff.1 (by omega)
                    obtain ⟨g1_, o1_, cp1_, hA1_, _, _, _⟩ := sr.place hne
                    injection hA1_ with e1_ _ e3_
                    subst e1_
                    subst e3_
                    clear hx hs
                    obtain ⟨ux, tx, hltx, zx0, zx1, zx2, zxs, zxd⟩ := (sr.below bb).at2 HX.out
                    obtain ⟨Ax, cx, rfl, _⟩ := id zxs
                    obtain ⟨Dx, ex, rfl, _⟩ := id zxd
                    have zx : IsQ wr (.agg #[.bool (ngB (x).num), .slice Ax (digs 4294967296 (x).num.natAbs).length cx, .slice Dx (digs 4294967296 (x).den).length ex]) (x) := ⟨_, _, rfl, zxs, zxd⟩
                    have sB := bb.size
                    go_upto_region 15 with (fail)
                    refine flowp 5 [Pd.eq (.int .i64 (k : Int)), Pd.eq (.pointer (some ⟨g1_, o1_ + k * 3, none⟩)), Pd.eq (.agg #[.bool (ngB (x).num), .slice Ax (digs 4294967296 (x).num.natAbs).length cx, .slice Dx (digs 4294967296 (x).den).length ex]), pn 46 #[.bool false, .slice none 0 0, .slice none 0 0] wr.heap.size, Pd.eq (.int .i64 (k : Int))] (by kernel_rfl) ?ob7 ?done7
                    case ob7 =>
                      refine And.intro (ob_move rfl (wt_none rfl) (ev_far rfl rfl) (fun _ _ h => h)) ?_
                      refine And.intro (ob_indexAddr rfl (wt_none rfl) (ev_far rfl rfl) (ev_far rfl rfl) (fun _ _ _ hx hy => ⟨_, by rw [hx, hy]; exact index3 (k := k) Tryz.underlying39 (by kernel_rfl) hltx _, rfl⟩)) ?_
                      refine And.intro (ob_load rfl (wt_none rfl) (ev_dep (j := 1) (by kernel_rfl) rfl rfl) (fun w2 hb => load3 Tryz.underlying46 rfl (by kernel_rfl) ((hb.cell (World.block_lt_of_cell? wr _ zx0)).trans zx0) ((hb.cell (World.block_lt_of_cell? wr _ zx1)).trans zx1) ((hb.cell (World.block_lt_of_cell? wr _ zx2)).trans zx2)) (fun _ _ => rfl)) ?_
                      refine And.intro (ob_alloc (z := .agg #[.bool false, .slice none 0 0, .slice none 0 0]) rfl rfl (fun _ => by kernel_rfl) (fun _ _ hB h => ⟨_, rfl, hB, h⟩)) ?_
                      refine And.intro (ob_assign rfl (wt_none rfl) (ev_dep (j := 0) (by kernel_rfl) rfl rfl) (fun _ _ h => h)) ?_
                      trivial
                    case done7 =>
                      refine fun w7 hb7 v0 h0 v1 h1 v2 h2 v3 h3 d3 v4 h4 b hbf => ?_
                      obtain rfl := h0; obtain rfl := h1; obtain rfl := h2; obtain rfl := h4
                      obtain ⟨g7_3, rfl, hg3, B3⟩ := h3
                      simp only [Act.put, List.setIfInBounds_toArray, List.set_cons_zero, List.set_cons_succ] at hbf
                      subst hbf
                      replace RN := RN.below hb7
                      replace zxs := zxs.below hb7
                      replace zxd := zxd.below hb7
                      replace bb := bb.trans (hb7.mono bb.size)
                      have hsz7 := bb.size
                      have BA10 := B3
                      have q2 := zxs
                      have d2 := zxd
                      refine ops_store (i := 5) rfl rfl rfl rfl rfl rfl (cells := [.bool (ngB (x).num), .slice Ax (digs 4294967296 (x).num.natAbs).length cx, .slice Dx (digs 4294967296 (x).den).length ex]) rfl BA10 rfl (by kernel_rfl) (one3 rfl rfl rfl) fun w8 hg8 BN8 => ?_
                      replace q2 := off q2 BA10 no_ints3 hg8
                      replace d2 := off d2 BA10 no_ints3 hg8
                      replace RN := RowN.offb RN BA10 no_ints3 hg8 (by omega)
                      replace bb := bb.trans ((Below.refl _ _).grown hg8 bb.size (fun g hg => by injection hg with hg; omega))
                      have hsz8 := bb.size
                      have Bx : Blk w8 (g7_3) _ _ := BN8
                      have kxs := q2
                      have kxd := d2
                      have kxz : IsZ w8 (.agg #[.bool (ngB (x).num), .slice Ax (digs 4294967296 (x).num.natAbs).length cx]) ((x).num) := ⟨_, rfl, kxs⟩
                      have kx : IsQ w8 (.agg #[.bool (ngB (x).num), .slice Ax (digs 4294967296 (x).num.natAbs).length cx, .slice Dx (digs 4294967296 (x).den).length ex]) (x) := ⟨_, _, rfl, kxs, kxd⟩
                      refine ops_done ?_
                      have hG9 := Bx.lt
                      have hne9 : g ≠ g7_3 := by omega
                      obtain ⟨ua, ta, hlta, za0, za1, za2, zas, zad⟩ := RN.at_ HAT.out
                      obtain ⟨Aa, ca, rfl, _⟩ := id zas
                      obtain ⟨Da, ea, rfl, _⟩ := id zad
                      have za : IsQ w8 (.agg #[.bool (ngB (s).num), .slice Aa (digs 4294967296 (s).num.natAbs).length ca, .slice Da (digs 4294967296 (s).den).length ea]) (s) := ⟨_, _, rfl, zas, zad⟩
                      have sB := bb.size
                      go_upto_region 16 with (fail)
                      refine flow 9 [Pd.eq (.slice (some ⟨g, 0, none⟩) p.length p.length), Pd.eq (.int .i64 (k : Int)), Pd.eq (.slice (some ⟨g, 0, none⟩) p.length p.length), Pd.eq (.int .i64 (k : Int)), Pd.eq (.pointer (some ⟨g, 0 + k * 3, none⟩)), Pd.eq (.agg #[.bool (ngB (s).num), .slice Aa (digs 4294967296 (s).num.natAbs).length ca, .slice Da (digs 4294967296 (s).den).length ea]), Pd.eq (.agg #[.bool (ngB (x).num), .slice Ax (digs 4294967296 (x).num.natAbs).length cx, .slice Dx (digs 4294967296 (x).den).length ex]), pq ((s + x)) w8.heap.size, Pd.eq (.pointer (some ⟨g, 0 + k * 3, none⟩))] (by kernel_rfl) (by kernel_rfl) ?ob8 ?done8
                      case ob8 =>
                        refine And.intro (ob_move rfl (wt_none rfl) (ev_far rfl rfl) (fun _ _ h => h)) ?_
                        refine And.intro (ob_move rfl (wt_none rfl) (ev_far rfl rfl) (fun _ _ h => h)) ?_
                        refine And.intro (ob_move rfl (wt_none rfl) (ev_far rfl rfl) (fun _ _ h => h)) ?_
                        refine And.intro (ob_move rfl (wt_none rfl) (ev_far rfl rfl) (fun _ _ h => h)) ?_
                        refine And.intro (ob_indexAddr rfl (wt_none rfl) (ev_dep (j := 2) (by kernel_rfl) rfl rfl) (ev_dep (j := 3) (by kernel_rfl) rfl rfl) (fun _ _ _ hx hy => ⟨_, by rw [hx, hy]; exact index3 (k := k) Tryz.underlying39 (by kernel_rfl) hlta _, rfl⟩)) ?_
                        refine And.intro (ob_load rfl (wt_none rfl) (ev_dep (j := 4) (by kernel_rfl) rfl rfl) (fun w2 hb => load3 Tryz.underlying46 rfl (by kernel_rfl) ((hb.cell (World.block_lt_of_cell? w8 _ za0)).trans za0) ((hb.cell (World.block_lt_of_cell? w8 _ za1)).trans za1) ((hb.cell (World.block_lt_of_cell? w8 _ za2)).trans za2)) (fun _ _ => rfl)) ?_
                        refine And.intro (ob_load rfl (wt_none rfl) (ev_far rfl rfl) (fun w2 hb => run_loadAll Tryz.underlying46 rfl (by kernel_rfl) (Bx.drew.below hb)) (fun _ _ => rfl)) ?_
                        refine And.intro (ob_call2 rfl Tryz.func50 (by kernel_rfl) (wt_none rfl) (ev_dep (j := 5) (by kernel_rfl) rfl rfl) (ev_dep (j := 6) (by kernel_rfl) rfl rfl) (fun w2 u0 u1 hb h0 h1 => by obtain rfl := h0; obtain rfl := h1; exact (add8_any _ s _ x _ (za.drew.below hb) (kx.drew.below hb) (ls.mono (by omega)) (lx.mono (by omega))).mono fun e w3 h => RetQ.pd h hb.size)) ?_
                        refine And.intro (ob_indexAddr rfl (wt_none rfl) (ev_dep (j := 0) (by kernel_rfl) rfl rfl) (ev_dep (j := 1) (by kernel_rfl) rfl rfl) (fun _ _ _ hx hy => ⟨_, by rw [hx, hy]; exact index3 (k := k) Tryz.underlying39 (by kernel_rfl) hlp _, rfl⟩)) ?_
                        trivial
                      case done8 =>
                        refine fun w9 hb9 v0 h0 v1 h1 v2 h2 v3 h3 v4 h4 v5 h5 v6 h6 v7 h7 v8 h8 b hbf => ?_
                        obtain rfl := h0; obtain rfl := h1; obtain rfl := h2; obtain rfl := h3; obtain rfl := h4; obtain rfl := h5; obtain rfl := h6; obtain rfl := h8
                        obtain ⟨q7, f7⟩ := h7
                        simp only [Act.put, List.setIfInBounds_toArray, List.set_cons_zero, List.set_cons_succ] at hbf
                        subst hbf
                        replace Bx := Bx.below hb9
                        replace kxs := kxs.below hb9
                        replace kxd := kxd.below hb9
                        replace kxz := kxz.below hb9
                        replace kx := kx.below hb9
                        replace RN := RN.below hb9
                        replace bb := bb.trans (hb9.mono bb.size)
                        have hsz9 := bb.size
                        have s_7 := sB
                        obtain ⟨u7, t7, rfl, q7, d7⟩ := q7
                        obtain ⟨A9, c9, rfl, _⟩ := id q7
                        obtain ⟨D9, e9, rfl, _⟩ := id d7
                        refine any_store_q (j := 9) (by kernel_rfl) rfl rfl rfl rfl (g := g) (i := k) (q := (s + x)) rfl rfl (by kernel_rfl) RN hlp q7 d7 fun w10 hg10 hP10 => ?_
                        replace kxs := RN.keep hg10 kxs
                        replace kxd := RN.keep hg10 kxd
                        replace kxz : IsZ w10 (.agg #[.bool (ngB (x).num), .slice Ax (digs 4294967296 (x).num.natAbs).length cx]) ((x).num) := ⟨_, rfl, kxs⟩
                        replace kx : IsQ w10 (.agg #[.bool (ngB (x).num), .slice Ax (digs 4294967296 (x).num.natAbs).length cx, .slice Dx (digs 4294967296 (x).den).length ex]) (x) := ⟨_, _, rfl, kxs, kxd⟩
                        replace Bx := Bx.grown hg10 (by omega)
                        replace bb := bb.trans ((Below.refl _ _).grown hg10 bb.size (fun g hg => by injection hg with hg; omega))
                        have hsz10 := bb.size
                        replace RN := hP10.2 HFL.out
                        clear hP10
                        refine any_done (by kernel_rfl) ?_
                        rw [HFS.out] at RN
                        have hsk : r.length - (k + 1) < r.length - k := by omega
                        go_wp2
                        go_roundw
                        case rel => exact ⟨k + 1, by omega, RN, bb, by go_num⟩
                        case measure => simp [intOf]; omega
                  · have HE2 : Hid ((addq (accq p q m) r).take k ++ (accq p q m).drop k = accq p q (m + 1)) := by
                      show _ = _
                      rw [List.take_of_length_le (by rw [HAR.out, HAL.out]; have := HRL.out; omega), List.drop_eq_nil_of_le (by rw [HAL.out]; have := HRL.out; omega), List.append_nil, HAS.out]
                    rw [HE2.out] at RN
                    go_wp2
                    refine ⟨⟨m + 1, by omega, RN, bb, by go_num⟩, ?_⟩
                    simp [intOf]; omega
            · obtain rfl : m = 2 := by omega
              have he := HE.out
              have HAL : Hid ((addq p q).length = p.length) := addq_len he
              have hS : SlF .u64 4294967296 wr (.slice (some ⟨g, 0, none⟩) p.length p.length) (addq p q) := RN.sl HAL.out (by omega)
              clear RN
              go_wp2
              go_ret2
              exact .inl ⟨he, _, rfl, by rw [if_pos rfl]; exact hS, bb⟩
/-- A table of rows that have no places yet, made by the call. -/
def RetBar (n : Nat) (w : World) (e : Ending) (w' : World) : Prop := ∃ g, e = .returned (.slice (some ⟨g, 0, none⟩) n n) ∧ TabB w' g 39 (List.replicate n (.slice none 0 0)) ∧ w.heap.size ≤ g ∧ Below w.heap.size w w'
theorem RetBar.pd {n : Nat} {w : World} {e : Ending} {w' : World} {B : Nat} (h : RetBar n w e w') (hB : B ≤ w.heap.size) : RetPd (pbar n 39 B) w e w' := by
  obtain ⟨g, h1, h2, h3, h4⟩ := h
  exact ⟨_, h1, ⟨g, rfl, h2, Nat.le_trans hB h3⟩, h4⟩
set_option maxHeartbeats 1600000 in
set_option maxRecDepth 100000 in
theorem mcopied_any (a0 : Value) (x : Rat) (w : World) (h0 : IsQ w a0 x) (hl : lenQ x 100000) :
    Calls Tryz.prog 55 #[a0] w (RetQ x w) := by
  obtain ⟨u0, t0, rfl, s0, r0⟩ := h0
  obtain ⟨A0, c0, rfl, _⟩ := id s0
  obtain ⟨D0, e0, rfl, _⟩ := id r0
  go_enter Tryz.func55, Tryz.ntmps55
  go_upto_region 1 with (fail)
  obtain ⟨wx, hwx, bb, B0, BR0, hsz⟩ := vars2 w 46 46 #[.bool (ngB (x).num), .slice A0 (digs 4294967296 (x).num.natAbs).length c0, .slice D0 (digs 4294967296 (x).den).length e0] #[.bool false, .slice none 0 0, .slice none 0 0]
  rw [hwx]
  clear hwx
  have k0s := s0.below bb
  have k0d := r0.below bb
  have k0z : IsZ wx (.agg #[.bool (ngB (x).num), .slice A0 (digs 4294967296 (x).num.natAbs).length c0]) (x).num := ⟨_, rfl, k0s⟩
  have k0 : IsQ wx (.agg #[.bool (ngB (x).num), .slice A0 (digs 4294967296 (x).num.natAbs).length c0, .slice D0 (digs 4294967296 (x).den).length e0]) (x) := ⟨_, _, rfl, k0s, k0d⟩
  have hsz0 := bb.size
  have sB := bb.size
  refine flow 12 [Pd.eq (.pointer (some ⟨w.heap.size, 0, none⟩)), Pd.eq (.pointer (some ⟨w.heap.size, 0, none⟩)), Pd.eq (.bool (ngB (x).num)), Pd.eq (.pointer (some ⟨w.heap.size, 0, none⟩)), Pd.eq (.pointer (some ⟨w.heap.size, 1, none⟩)), Pd.eq (.slice A0 (digs 4294967296 (x).num.natAbs).length c0), ps .u64 (digs 4294967296 (x).num.natAbs) wx.heap.size, pz ((x).num) wx.heap.size, Pd.eq (.pointer (some ⟨w.heap.size, 2, none⟩)), Pd.eq (.slice D0 (digs 4294967296 (x).den).length e0), ps .u64 (digs 4294967296 (x).den) wx.heap.size, pq (x) wx.heap.size] (by kernel_rfl) (by kernel_rfl) ?ob1 ?done1
  case ob1 =>
    refine And.intro (ob_fieldAddr rfl (wt_none rfl) (ev_far rfl rfl) (fun _ => by kernel_rfl) (fun _ => rfl)) ?_
    refine And.intro (ob_fieldAddr rfl (wt_none rfl) (ev_dep (j := 0) (by kernel_rfl) rfl rfl) (fun _ => by kernel_rfl) (fun _ => rfl)) ?_
    refine And.intro (ob_load rfl (wt_none rfl) (ev_dep (j := 1) (by kernel_rfl) rfl rfl) (fun w2 hb => run_load1 Tryz.underlying4 rfl ((B0.drew.below hb).cell 0)) (fun _ _ => rfl)) ?_
    refine And.intro (ob_fieldAddr rfl (wt_none rfl) (ev_far rfl rfl) (fun _ => by kernel_rfl) (fun _ => rfl)) ?_
    refine And.intro (ob_fieldAddr rfl (wt_none rfl) (ev_dep (j := 3) (by kernel_rfl) rfl rfl) (fun _ => by kernel_rfl) (fun _ => rfl)) ?_
    refine And.intro (ob_load rfl (wt_none rfl) (ev_dep (j := 4) (by kernel_rfl) rfl rfl) (fun w2 hb => run_load1 Tryz.underlying42 rfl ((B0.drew.below hb).cell 1)) (fun _ _ => rfl)) ?_
    refine And.intro (ob_call1 rfl Tryz.func85 (by kernel_rfl) (wt_none rfl) (ev_dep (j := 5) (by kernel_rfl) rfl rfl) (fun w2 u0 hb h0 => by obtain rfl := h0; exact (clone_any _ _ _ (k0s.drew.below hb) (Nat.le_trans hl.1 (by decide))).mono fun e w3 h => RetS.pd h hb.size)) ?_
    refine And.intro (ob_build2b rfl (wt_none rfl) (ev_dep (j := 2) (by kernel_rfl) rfl rfl) (ev_dep (j := 6) (by kernel_rfl) rfl rfl) (fun w2 u v hb hu hv => by obtain rfl := hu; obtain ⟨A7, c7, rfl, _⟩ := id hv.1; exact ⟨.agg #[.bool (ngB (x).num), .slice A7 (digs 4294967296 (x).num.natAbs).length c7], by kernel_rfl, ⟨_, rfl, hv.1⟩, freshZ_mk hv.2⟩)) ?_
    refine And.intro (ob_fieldAddr rfl (wt_none rfl) (ev_far rfl rfl) (fun _ => by kernel_rfl) (fun _ => rfl)) ?_
    refine And.intro (ob_load rfl (wt_none rfl) (ev_dep (j := 8) (by kernel_rfl) rfl rfl) (fun w2 hb => run_load1 Tryz.underlying42 rfl ((B0.drew.below hb).cell 2)) (fun _ _ => rfl)) ?_
    refine And.intro (ob_call1 rfl Tryz.func85 (by kernel_rfl) (wt_none rfl) (ev_dep (j := 9) (by kernel_rfl) rfl rfl) (fun w2 u0 hb h0 => by obtain rfl := h0; exact (clone_any _ _ _ (k0d.drew.below hb) (Nat.le_trans hl.2 (by decide))).mono fun e w3 h => RetS.pd h hb.size)) ?_
    refine And.intro (ob_build2b rfl (wt_none rfl) (ev_dep (j := 7) (by kernel_rfl) rfl rfl) (ev_dep (j := 10) (by kernel_rfl) rfl rfl) (fun w2 u v hb hu hv => by obtain ⟨u7, rfl, hu7⟩ := hu.1; obtain ⟨A7, c7, rfl, _⟩ := id hu7; obtain ⟨A8, c8, rfl, _⟩ := id hv.1; exact ⟨.agg #[.bool (ngB (x).num), .slice A7 (digs 4294967296 (x).num.natAbs).length c7, .slice A8 (digs 4294967296 (x).den).length c8], by kernel_rfl, ⟨⟨_, _, rfl, hu7, hv.1⟩, freshQ_mk (hu.2 _ _ rfl) hv.2⟩⟩)) ?_
    trivial
  case done1 =>
    refine fun w11 hb11 v0 h0 v1 h1 v2 h2 v3 h3 v4 h4 v5 h5 v6 h6 v7 h7 v8 h8 v9 h9 v10 h10 v11 h11 b hbf => ?_
    obtain rfl := h0; obtain rfl := h1; obtain rfl := h2; obtain rfl := h3; obtain rfl := h4; obtain rfl := h5; obtain rfl := h8; obtain rfl := h9
    obtain ⟨q6, f6⟩ := h6
    obtain ⟨q7, f7⟩ := h7
    obtain ⟨q10, f10⟩ := h10
    obtain ⟨q11, f11⟩ := h11
    simp only [Act.put, List.setIfInBounds_toArray, List.set_cons_zero, List.set_cons_succ] at hbf
    subst hbf
    replace B0 := B0.below hb11
    replace k0s := k0s.below hb11
    replace k0d := k0d.below hb11
    replace k0z := k0z.below hb11
    replace k0 := k0.below hb11
    replace BR0 := BR0.below hb11
    replace bb := bb.trans (hb11.mono bb.size)
    have hsz11 := bb.size
    have s_6 := sB
    have s_7 := sB
    have s_10 := sB
    have s_11 := sB
    obtain ⟨u11, t11, rfl, q11, d11⟩ := q11
    obtain ⟨A9, c9, rfl, _⟩ := id q11
    obtain ⟨D9, e9, rfl, _⟩ := id d11
    refine any_store (i := 12) (by kernel_rfl) rfl rfl rfl rfl rfl rfl (cells := [.bool (ngB (x).num), .slice A9 (digs 4294967296 (x).num.natAbs).length c9, .slice D9 (digs 4294967296 (x).den).length e9]) rfl BR0 rfl (by kernel_rfl) (one3 rfl rfl rfl) fun w9 hg9 B9 => ?_
    have k9 := off q11 BR0 no_ints3 hg9
    have d9 := off d11 BR0 no_ints3 hg9
    have f9 := f11.mono (show w.heap.size ≤ _ from s_11)
    have bb9 := bb.trans ((Below.refl _ _).grown hg9 bb.size (fun g hg => by injection hg with hg; omega))
    obtain ⟨C0, C1, C2, _, _, _⟩ := three B9
    refine any_done (by kernel_rfl) ?_
    go_wp2
    exact bodyPost_ret (v := .agg #[.bool (ngB (x).num), .slice A9 (digs 4294967296 (x).num.natAbs).length c9, .slice D9 (digs 4294967296 (x).den).length e9]) (by simp [results, Tryz.results55, go_sem, C0, C1, C2]) rfl ⟨_, rfl, ⟨_, _, rfl, k9, d9⟩, f9, bb9⟩
set_option maxHeartbeats 1600000 in
set_option maxRecDepth 100000 in
theorem mbare_any (n : Int) (d : Nat) (w : World) (hn : n = (d : Int)) (hd : d ≤ 1000000) :
    Calls Tryz.prog 32 #[.int .i64 n] w (RetBar d w) := by
  have bb : Below w.heap.size w w := Below.refl _ _
  subst hn
  go_enter Tryz.func32, Tryz.ntmps32
  go_upto_region 1 with (fail)
  have hsz0 := bb.size
  have sB := bb.size
  refine flowp 3 [Pd.eq (.int .i64 (d : Int)), pbar d 39 w.heap.size, pbar d 39 w.heap.size] (by kernel_rfl) ?ob2 ?done2
  case ob2 =>
    refine And.intro (ob_move rfl (wt_none rfl) (ev_far rfl rfl) (fun _ _ h => h)) ?_
    refine And.intro (ob_make_v d rfl rfl (ev_dep (j := 0) (by kernel_rfl) rfl rfl) (ev_dep (j := 0) (by kernel_rfl) rfl rfl) Tryz.underlying22 info_vec (by omega) (fun _ _ h => h)) ?_
    refine And.intro (ob_assign rfl (wt_none rfl) (ev_dep (j := 1) (by kernel_rfl) rfl rfl) (fun _ _ h => h)) ?_
    trivial
  case done2 =>
    refine fun w11 hb11 v0 h0 v1 h1 v2 h2 b hbf => ?_
    obtain rfl := h0
    have q1 := h1
    have q2 := h2
    simp only [Act.put, List.setIfInBounds_toArray, List.set_cons_zero, List.set_cons_succ] at hbf
    subst hbf
    replace bb := bb.trans (hb11.mono bb.size)
    have hsz11 := bb.size
    refine ops_done ?_
    obtain ⟨g, rfl, TB, hg⟩ := q2
    go_wp2
    go_ret
    exact ⟨g, rfl, TB, hg, bb⟩
set_option maxHeartbeats 3200000 in
set_option maxRecDepth 100000 in
theorem mdots_any (a0 a1 : Value) (t : List (List Rat)) (v : List Rat) (m n : Nat) (w : World) (h0 : SlT .u64 4294967296 w a0 t) (h1 : SlF .u64 4294967296 w a1 v) (he : ∀ r ∈ t, r.length = v.length) (hl : t.length ≤ 1000 ∧ v.length ≤ 1000 ∧ lenT t m ∧ (∀ y ∈ v, lenQ y n) ∧ (m + n + 1) * v.length + 1 ≤ 900) :
    Calls Tryz.prog 46 #[a0, a1] w (RetSl (dotsq t v) w) := by
  have bb : Below w.heap.size w w := Below.refl _ _
  have sl1 := h1
  obtain ⟨A1, c1, rfl, hc1, hm1⟩ := h1.shape
  unfold maxLen at hm1
  have st0 := h0
  obtain ⟨A0, c0, rfl, hc0, hm0⟩ := h0.shape
  unfold maxLen at hm0
  have HL := Lib.hid hl
  have HE := Lib.hid he
  have ht2 : t.length ≤ 1000 := hl.1
  have HRL : Hid ((dotsq t v).length = t.length) := dotsq_len t v
  clear hl he
  go_enter Tryz.func46, Tryz.ntmps46
  go_upto_region 1 with (fail)
  have hsz0 := bb.size
  have sB := bb.size
  refine flowp 4 [Pd.eq (.slice A0 t.length c0), Pd.eq (.int .i64 ((t.length : Nat) : Int)), pro t.length [] w.heap.size, pro t.length [] w.heap.size] (by kernel_rfl) ?ob3 ?done3
  case ob3 =>
    refine And.intro (ob_move rfl (wt_none rfl) (ev_far rfl rfl) (fun _ _ h => h)) ?_
    refine And.intro (ob_len rfl (wt_none rfl) (ev_dep (j := 0) (by kernel_rfl) rfl rfl) (fun _ _ hx => ⟨_, by rw [hx]; exact len_slice Tryz.underlying22 _ _ _ _, rfl⟩)) ?_
    refine And.intro (ob_make_q t.length rfl rfl (ev_dep (j := 1) (by kernel_rfl) rfl rfl) (ev_dep (j := 1) (by kernel_rfl) rfl rfl) Tryz.underlying39 info_rat (by omega) (fun _ _ h => h)) ?_
    refine And.intro (ob_assign rfl (wt_none rfl) (ev_dep (j := 2) (by kernel_rfl) rfl rfl) (fun _ _ h => h)) ?_
    trivial
  case done3 =>
    refine fun w11 hb11 v0 h0 v1 h1 v2 h2 v3 h3 b hbf => ?_
    obtain rfl := h0; obtain rfl := h1
    have q2 := h2
    have q3 := h3
    simp only [Act.put, List.setIfInBounds_toArray, List.set_cons_zero, List.set_cons_succ] at hbf
    subst hbf
    replace bb := bb.trans (hb11.mono bb.size)
    have hsz11 := bb.size
    refine ops_done ?_
    obtain ⟨g, rfl, RN, hg⟩ := q3
    have hgw : w.heap.size ≤ g := by omega
    go_wp2
    go_loopw [13] (fun v13 wr => ∃ k : Nat, k ≤ t.length ∧ RowN wr g t.length ((dotsq t v).take k) ∧ Below w.heap.size w wr ∧ v13 = .int .i64 (k : Int)) (fun v13 _ => t.length - (intOf v13).toNat)
    case atStart => exact ⟨0, by omega, RN, bb, rfl⟩
    case round =>
      obtain ⟨k, hk, hR, hbw, rfl⟩ := hrel
      clear RN bb
      have RN := hR
      have bb := hbw
      clear hR hbw
      have hszr := bb.size
      have hgl := RN.lt
      by_cases hlt : k < t.length
      · have hnt : t ≠ [] := List.length_pos_iff.1 (by omega)
        obtain ⟨x, hx⟩ : ∃ x, t[k]? = some x := ⟨_, List.getElem?_eq_getElem hlt⟩
        have hxm := List.mem_of_getElem? hx
        have HXE : Hid (x.length = v.length) := HE.out x hxm
        have HXB : Hid (x.length ≤ 1000 ∧ (∀ y ∈ x, lenQ y m) ∧ (∀ y ∈ v, lenQ y n) ∧ (m + n + 1) * x.length + 1 ≤ 900) := ⟨by rw [HXE.out]; exact HL.out.2.1, HL.out.2.2.1 x hxm, HL.out.2.2.2.1, by rw [HXE.out]; exact HL.out.2.2.2.2⟩
        have HTK : Hid ((dotsq t v).take (k + 1) = (dotsq t v).take k ++ [dotq x v]) := take_snoc (dotsq_at hx)
        have HLK : Hid (k = ((dotsq t v).take k).length) := by show _ = _; rw [List.length_take, HRL.out]; omega
        obtain ⟨ad0, rfl⟩ := st0.place hnt
        obtain ⟨Arx, crx, hix, ewx, srx⟩ := st0.at2 hx
        clear hx hxm
        have ecx := (bb.cell (World.block_lt_of_cell? w _ ewx)).trans ewx
        have sB := bb.size
        go_upto_region 4 with (fail)
        refine flowp 5 [Pd.eq (.int .i64 (k : Int)), Pd.eq (.pointer (some (ad0.add k))), Pd.eq (.slice Arx x.length crx), Pd.eq (.int .i64 (k : Int)), Pd.eq (.slice Arx x.length crx)] (by kernel_rfl) ?ob4 ?done4
        case ob4 =>
          refine And.intro (ob_move rfl (wt_none rfl) (ev_far rfl rfl) (fun _ _ h => h)) ?_
          refine And.intro (ob_indexAddr rfl (wt_none rfl) (ev_far rfl rfl) (ev_far rfl rfl) (fun _ _ _ hx hy => ⟨_, by rw [hx, hy]; exact index1_any (k := k) Tryz.underlying22 (by kernel_rfl) ad0 hlt _, rfl⟩)) ?_
          refine And.intro (ob_load rfl (wt_none rfl) (ev_dep (j := 1) (by kernel_rfl) rfl rfl) (fun w2 hb => run_load1 Tryz.underlying39 rfl ((hb.cell (World.block_lt_of_cell? wr _ ecx)).trans ecx)) (fun _ _ => rfl)) ?_
          refine And.intro (ob_assign rfl (wt_none rfl) (ev_dep (j := 0) (by kernel_rfl) rfl rfl) (fun _ _ h => h)) ?_
          refine And.intro (ob_assign rfl (wt_none rfl) (ev_dep (j := 2) (by kernel_rfl) rfl rfl) (fun _ _ h => h)) ?_
          trivial
        case done4 =>
          refine fun w13 hb13 v0 h0 v1 h1 v2 h2 v3 h3 v4 h4 b hbf => ?_
          obtain rfl := h0; obtain rfl := h1; obtain rfl := h2; obtain rfl := h3; obtain rfl := h4
          simp only [Act.put, List.setIfInBounds_toArray, List.set_cons_zero, List.set_cons_succ] at hbf
          subst hbf
          replace RN := RN.below hb13
          replace bb := bb.trans (hb13.mono bb.size)
          have hsz13 := bb.size
          refine ops_done ?_
          clear ecx
          have sB := bb.size
          go_upto_region 5 with (fail)
          refine flowp 9 [Pd.eq (.slice (some ⟨g, 0, none⟩) t.length t.length), Pd.eq (.int .i64 (k : Int)), Pd.eq (.slice Arx x.length crx), Pd.eq (.slice A1 v.length c1), pqe ((dotq x v)) 0, pqe ((dotq x v)) 0, pqn ((dotq x v)), Pd.eq (.int .i64 0), Pd.eq (.pointer (some ⟨g, 0 + k * 3, none⟩))] (by kernel_rfl) ?ob5 ?done5
          case ob5 =>
            refine And.intro (ob_move rfl (wt_none rfl) (ev_far rfl rfl) (fun _ _ h => h)) ?_
            refine And.intro (ob_move rfl (wt_none rfl) (ev_far rfl rfl) (fun _ _ h => h)) ?_
            refine And.intro (ob_move rfl (wt_none rfl) (ev_far rfl rfl) (fun _ _ h => h)) ?_
            refine And.intro (ob_move rfl (wt_none rfl) (ev_far rfl rfl) (fun _ _ h => h)) ?_
            refine And.intro (ob_call2 rfl Tryz.func71 (by kernel_rfl) (wt_none rfl) (ev_dep (j := 2) (by kernel_rfl) rfl rfl) (ev_dep (j := 3) (by kernel_rfl) rfl rfl) (fun w2 u0 u1 hb h0 h1 => by obtain rfl := h0; obtain rfl := h1; exact (fdot_gen _ _ x v m n _ ((srx.below bb).below hb) ((sl1.below bb).below hb) HXE.out HXB.out).mono fun e w3 h => RetQE.pd h)) ?_
            refine And.intro (ob_move rfl (wt_none rfl) (ev_dep (j := 4) (by kernel_rfl) rfl rfl) (fun _ _ h => h)) ?_
            refine And.intro (ob_extract rfl (wt_none rfl) (ev_dep (j := 5) (by kernel_rfl) rfl rfl) (fun w2 u hu => by obtain ⟨v, rfl, q1⟩ := hu; exact ⟨v, rfl, q1⟩)) ?_
            refine And.intro (ob_extract rfl (wt_none rfl) (ev_dep (j := 5) (by kernel_rfl) rfl rfl) (fun w2 u hu => by obtain ⟨v, rfl, q1⟩ := hu; exact ⟨_, rfl, rfl⟩)) ?_
            refine And.intro (ob_indexAddr rfl (wt_none rfl) (ev_dep (j := 0) (by kernel_rfl) rfl rfl) (ev_dep (j := 1) (by kernel_rfl) rfl rfl) (fun _ _ _ hx hy => ⟨_, by rw [hx, hy]; exact index3 (k := k) Tryz.underlying39 (by kernel_rfl) hlt _, rfl⟩)) ?_
            trivial
          case done5 =>
            refine fun w14 hb14 v0 h0 v1 h1 v2 h2 v3 h3 v4 h4 v5 h5 v6 h6 v7 h7 v8 h8 b hbf => ?_
            obtain rfl := h0; obtain rfl := h1; obtain rfl := h2; obtain rfl := h3; obtain rfl := h7; obtain rfl := h8
            clear h4
            clear h5
            have q6 := h6
            simp only [Act.put, List.setIfInBounds_toArray, List.set_cons_zero, List.set_cons_succ] at hbf
            subst hbf
            replace RN := RN.below hb14
            replace bb := bb.trans (hb14.mono bb.size)
            have hsz14 := bb.size
            obtain ⟨u6, t6, rfl, q6, d6⟩ := q6
            obtain ⟨A9, c9, rfl, _⟩ := id q6
            obtain ⟨D9, e9, rfl, _⟩ := id d6
            refine ops_store_q (j := 9) rfl rfl rfl rfl (g := g) (i := k) (q := (dotq x v)) rfl rfl (by kernel_rfl) RN hlt q6 d6 fun w15 hg15 hP15 => ?_
            replace bb := bb.trans ((Below.refl _ _).grown hg15 bb.size (fun g hg => by injection hg with hg; omega))
            have hsz15 := bb.size
            replace RN := hP15.1 HLK.out
            clear hP15
            refine ops_done ?_
            rw [← HTK.out] at RN
            have hsk : t.length - (k + 1) < t.length - k := by omega
            go_wp2
            go_roundw
            case rel => exact ⟨k + 1, by omega, RN, bb, by go_num⟩
            case measure => simp [intOf]; omega
      · rw [List.take_of_length_le (by rw [HRL.out]; omega)] at RN
        have hS := RN.sl HRL.out (by omega)
        clear RN
        go_wp2
        go_ret
        exact ⟨_, rfl, hS, bb⟩
set_option maxHeartbeats 3200000 in
set_option maxRecDepth 100000 in
theorem mcolumn_any (a0 : Value) (v : List Rat) (w : World) (h0 : SlF .u64 4294967296 w a0 v) (hl : v.length ≤ 1000 ∧ ∀ x ∈ v, lenQ x 100000) :
    Calls Tryz.prog 27 #[a0] w (RetSlT .u64 4294967296 (colT v) w) := by
  have bb : Below w.heap.size w w := Below.refl _ _
  have sl0 := h0
  obtain ⟨A0, c0, rfl, hc0, hm0⟩ := h0.shape
  unfold maxLen at hm0
  have HL := Lib.hid hl
  have hv2 : v.length ≤ 1000 := hl.1
  have HTL : Hid ((colT v).length = v.length) := colT_len v
  clear hl
  go_enter Tryz.func27, Tryz.ntmps27
  go_upto_region 1 with (fail)
  have hsz0 := bb.size
  have sB := bb.size
  refine flowp 4 [Pd.eq (.slice A0 v.length c0), Pd.eq (.int .i64 ((v.length : Nat) : Int)), pbar v.length 39 w.heap.size, pbar v.length 39 w.heap.size] (by kernel_rfl) ?ob6 ?done6
  case ob6 =>
    refine And.intro (ob_move rfl (wt_none rfl) (ev_far rfl rfl) (fun _ _ h => h)) ?_
    refine And.intro (ob_len rfl (wt_none rfl) (ev_dep (j := 0) (by kernel_rfl) rfl rfl) (fun _ _ hx => ⟨_, by rw [hx]; exact len_slice Tryz.underlying39 _ _ _ _, rfl⟩)) ?_
    refine And.intro (ob_call1 rfl Tryz.func32 (by kernel_rfl) (wt_none rfl) (ev_dep (j := 1) (by kernel_rfl) rfl rfl) (fun w2 u0 hb h0 => by obtain rfl := h0; exact (mbare_any _ (v.length) _ rfl (by omega)).mono fun e w3 h => RetBar.pd h hb.size)) ?_
    refine And.intro (ob_assign rfl (wt_none rfl) (ev_dep (j := 2) (by kernel_rfl) rfl rfl) (fun _ _ h => h)) ?_
    trivial
  case done6 =>
    refine fun w11 hb11 v0 h0 v1 h1 v2 h2 v3 h3 b hbf => ?_
    obtain rfl := h0; obtain rfl := h1
    have q2 := h2
    have q3 := h3
    simp only [Act.put, List.setIfInBounds_toArray, List.set_cons_zero, List.set_cons_succ] at hbf
    subst hbf
    replace bb := bb.trans (hb11.mono bb.size)
    have hsz11 := bb.size
    refine ops_done ?_
    obtain ⟨g, rfl, TB, hg⟩ := q3
    have hgw : w.heap.size ≤ g := by omega
    have TS0 : TabS .u64 4294967296 w11 g 39 (List.replicate v.length (.slice none 0 0)) (partq (colT v) 0 v.length) := by rw [partq_zero]; exact TB.bare
    clear TB
    go_wp2
    go_loopw [11] (fun v11 wr => ∃ (k : Nat) (us : List Value), k ≤ v.length ∧ TabS .u64 4294967296 wr g 39 us (partq (colT v) k v.length) ∧ Below w.heap.size w wr ∧ v11 = .int .i64 (k : Int)) (fun v11 _ => v.length - (intOf v11).toNat)
    case atStart => exact ⟨0, _, by omega, TS0, bb, rfl⟩
    case round =>
      obtain ⟨k, us, hk, TS, hbw, rfl⟩ := hrel
      clear TS0 bb
      have bb := hbw
      clear hbw
      have hszr := bb.size
      have hgl := TS.lt
      by_cases hlt : k < v.length
      · obtain ⟨x, hq0_⟩ : ∃ x, v[k]? = some x := ⟨_, List.getElem?_eq_getElem hlt⟩
        obtain ⟨g0_, o0_, ue0, te0, hA0_, _, e00, e01, e02, es0, ed0⟩ := (sl0.below bb).at_ hq0_
        subst hA0_
        have HQ0 := Lib.hid hq0_
        clear hq0_
        obtain ⟨Ae0, ce0, rfl, _⟩ := id es0
        obtain ⟨De0, ee0, rfl, _⟩ := id ed0
        have ke0 : IsQ wr (.agg #[.bool (ngB x.num), .slice Ae0 (digs 4294967296 x.num.natAbs).length ce0, .slice De0 (digs 4294967296 x.den).length ee0]) x := ⟨_, _, rfl, es0, ed0⟩
        have lx : lenQ x 100000 := HL.out.2 x (List.mem_of_getElem? HQ0.out)
        have HAT : Hid ((colT v)[k]? = some [x]) := colT_at HQ0.out
        have TS_ := TS
        clear TS
        have sB := bb.size
        go_upto_region 4 with (fail)
        refine flowp 5 [Pd.eq (.int .i64 (k : Int)), Pd.eq (.pointer (some ⟨g0_, o0_ + k * 3, none⟩)), Pd.eq (.agg #[.bool (ngB x.num), .slice Ae0 (digs 4294967296 x.num.natAbs).length ce0, .slice De0 (digs 4294967296 x.den).length ee0]), pn 46 #[.bool false, .slice none 0 0, .slice none 0 0] wr.heap.size, Pd.eq (.int .i64 (k : Int))] (by kernel_rfl) ?ob7 ?done7
        case ob7 =>
          refine And.intro (ob_move rfl (wt_none rfl) (ev_far rfl rfl) (fun _ _ h => h)) ?_
          refine And.intro (ob_indexAddr rfl (wt_none rfl) (ev_far rfl rfl) (ev_far rfl rfl) (fun _ _ _ hx hy => ⟨_, by rw [hx, hy]; exact index3 Tryz.underlying39 (by kernel_rfl) hlt _, rfl⟩)) ?_
          refine And.intro (ob_load rfl (wt_none rfl) (ev_dep (j := 1) (by kernel_rfl) rfl rfl) (fun w2 hb => load3 Tryz.underlying46 rfl (by kernel_rfl) ((hb.cell (World.block_lt_of_cell? wr _ e00)).trans e00) ((hb.cell (World.block_lt_of_cell? wr _ e01)).trans e01) ((hb.cell (World.block_lt_of_cell? wr _ e02)).trans e02)) (fun _ _ => rfl)) ?_
          refine And.intro (ob_alloc (z := .agg #[.bool false, .slice none 0 0, .slice none 0 0]) rfl rfl (fun _ => by kernel_rfl) (fun _ _ hB h => ⟨_, rfl, hB, h⟩)) ?_
          refine And.intro (ob_assign rfl (wt_none rfl) (ev_dep (j := 0) (by kernel_rfl) rfl rfl) (fun _ _ h => h)) ?_
          trivial
        case done7 =>
          refine fun w13 hb13 v0 h0 v1 h1 v2 h2 v3 h3 d3 v4 h4 b hbf => ?_
          obtain rfl := h0; obtain rfl := h1; obtain rfl := h2; obtain rfl := h4
          obtain ⟨g7_3, rfl, hg3, B3⟩ := h3
          simp only [Act.put, List.setIfInBounds_toArray, List.set_cons_zero, List.set_cons_succ] at hbf
          subst hbf
          replace es0 := es0.below hb13
          replace ed0 := ed0.below hb13
          replace bb := bb.trans (hb13.mono bb.size)
          have hsz13 := bb.size
          have BA5 := B3
          have q2 := es0
          have d2 := ed0
          refine ops_store (i := 5) rfl rfl rfl rfl rfl rfl (cells := [.bool (ngB (x).num), .slice Ae0 (digs 4294967296 (x).num.natAbs).length ce0, .slice De0 (digs 4294967296 (x).den).length ee0]) rfl BA5 rfl (by kernel_rfl) (one3 rfl rfl rfl) fun w14 hg14 BN14 => ?_
          replace q2 := off q2 BA5 no_ints3 hg14
          replace d2 := off d2 BA5 no_ints3 hg14
          replace bb := bb.trans ((Below.refl _ _).grown hg14 bb.size (fun g hg => by injection hg with hg; omega))
          have hsz14 := bb.size
          have Be0 : Blk w14 (g7_3) _ _ := BN14
          have ke0s := q2
          have ke0d := d2
          have ke0z : IsZ w14 (.agg #[.bool (ngB (x).num), .slice Ae0 (digs 4294967296 (x).num.natAbs).length ce0]) ((x).num) := ⟨_, rfl, ke0s⟩
          have ke0 : IsQ w14 (.agg #[.bool (ngB (x).num), .slice Ae0 (digs 4294967296 (x).num.natAbs).length ce0, .slice De0 (digs 4294967296 (x).den).length ee0]) (x) := ⟨_, _, rfl, ke0s, ke0d⟩
          refine ops_done ?_
          have TS := TS_.below (hb13.trans ((Below.refl _ _).grown hg14 hb13.size (fun g hg => by injection hg with hg; omega)))
          clear TS_
          have sB := bb.size
          go_upto_region 5 with (fail)
          refine flowp 6 [Pd.eq (.slice (some ⟨g, 0, none⟩) v.length v.length), Pd.eq (.int .i64 (k : Int)), Pd.eq (.agg #[.bool (ngB (x).num), .slice Ae0 (digs 4294967296 (x).num.natAbs).length ce0, .slice De0 (digs 4294967296 (x).den).length ee0]), pq (x) w14.heap.size, psk .u64 4294967296 ([x]), Pd.eq (.pointer (some ⟨g, k, none⟩))] (by kernel_rfl) ?ob8 ?done8
          case ob8 =>
            refine And.intro (ob_move rfl (wt_none rfl) (ev_far rfl rfl) (fun _ _ h => h)) ?_
            refine And.intro (ob_move rfl (wt_none rfl) (ev_far rfl rfl) (fun _ _ h => h)) ?_
            refine And.intro (ob_load rfl (wt_none rfl) (ev_far rfl rfl) (fun w2 hb => run_loadAll Tryz.underlying46 rfl (by kernel_rfl) (Be0.below hb)) (fun _ _ => rfl)) ?_
            refine And.intro (ob_call1 rfl Tryz.func55 (by kernel_rfl) (wt_none rfl) (ev_dep (j := 2) (by kernel_rfl) rfl rfl) (fun w2 u0 hb h0 => by obtain rfl := h0; exact (mcopied_any _ x _ (ke0.below hb) lx).mono fun e w3 h => RetQ.pd h hb.size)) ?_
            refine And.intro (ob_lit1 rfl (wt_none rfl) (ev_dep (j := 3) (by kernel_rfl) rfl rfl) Tryz.underlying39 info_rat (fun _ _ _ h => h.1) (fun _ _ h => h)) ?_
            refine And.intro (ob_indexAddr rfl (wt_none rfl) (ev_dep (j := 0) (by kernel_rfl) rfl rfl) (ev_dep (j := 1) (by kernel_rfl) rfl rfl) (fun _ _ _ hx hy => ⟨_, by rw [hx, hy]; exact index_tab (k := k) Tryz.underlying22 (by kernel_rfl) hlt _, rfl⟩)) ?_
            trivial
          case done8 =>
            refine fun w15 hb15 v0 h0 v1 h1 v2 h2 v3 h3 v4 h4 v5 h5 b hbf => ?_
            obtain rfl := h0; obtain rfl := h1; obtain rfl := h2; obtain rfl := h5
            obtain ⟨q3, f3⟩ := h3
            have q4 := h4
            simp only [Act.put, List.setIfInBounds_toArray, List.set_cons_zero, List.set_cons_succ] at hbf
            subst hbf
            replace Be0 := Be0.below hb15
            replace ke0s := ke0s.below hb15
            replace ke0d := ke0d.below hb15
            replace ke0z := ke0z.below hb15
            replace ke0 := ke0.below hb15
            replace TS := TS.below hb15
            replace bb := bb.trans (hb15.mono bb.size)
            have hsz15 := bb.size
            have s_3 := sB
            obtain ⟨A9, c9, rfl, _, _⟩ := q4.shape
            have hul : us.length = v.length := by rw [TS.2.1]; unfold partq; rw [List.length_append, List.length_take, List.length_replicate, HTL.out]; omega
            refine ops_store_at (i := 6) (v := .slice A9 ([x]).length c9) rfl rfl rfl rfl rfl rfl rfl rfl TS.1.1 (by rw [List.size_toArray, hul]; exact hlt) (by kernel_rfl) fun w16 hg16 hB16 => ?_
            have TS2 := TS.put hg16 hB16 q4
            rw [partq_set HTL.out HAT.out] at TS2
            replace bb := bb.trans ((Below.refl _ _).grown hg16 bb.size (fun g hg => by injection hg with hg; omega))
            clear TS
            refine ops_done ?_
            have hsk : v.length - (k + 1) < v.length - k := by omega
            go_wp2
            go_roundw
            case rel => exact ⟨k + 1, _, by omega, TS2, bb, by go_num⟩
            case measure => simp [intOf]; omega
      · obtain rfl : k = v.length := by omega
        rw [partq_full HTL.out] at TS
        have hS := TS.slT HTL.out (by omega)
        clear TS
        go_wp2
        go_ret
        exact ⟨_, rfl, hS, bb⟩
end Go.Proofs.YtekpnbgchoccmaaGreat.rat
namespace Go.Proofs.YtekpnbgchoccmaaGreat.flow
open Go.RowKit Go.Proofs.YtekpnbgchoccmaaGreat.num Go.Proofs.YtekpnbgchoccmaaGreat.mem Go.Proofs.YtekpnbgchoccmaaGreat.whl Go.Proofs.YtekpnbgchoccmaaGreat.rat
set_option linter.unusedVariables false
section
variable {P : Program} {Q : Exit → Act → World → Prop} {ops : Array Oper} {o : Oper} {i : Nat}
theorem ops_append_q {rest : List Nat} {a : Act} {w : World} (s x : Operand) {t : TypeId} (ho : ops[i]? = some o) (hg : o.guard = none) (hop : o.op = .call { callee := .builtin .append, args := #[s, x], argTypes := #[t, t] })
    {base : Nat} {T : TypeId} (hT : P.underlying t = some (.slice T)) (hI : ∃ i, P.info? T = some i ∧ i.zero = some (.agg #[.bool false, .slice none 0 0, .slice none 0 0]) ∧ i.size = 3 ∧ i.bytes = 56) {v : Value} {p : Elt} {ps : List Elt} (hs : a.eval s = v) (hown : RowF T w base v ps) {ad : Addr} {c : Nat} (hx : a.eval x = .slice (some ad) 1 c)
    (h0 : w.cell? (ad.add 0) = some (.bool (ngB p.1.num))) (h1 : w.cell? (ad.add 1) = some p.2.1) (h2 : w.cell? (ad.add 2) = some p.2.2) (k1 : p.2.1.oneCell' = true) (k2 : p.2.2.oneCell' = true) (hlen : ps.length ≤ 1000000000) (hbase : base ≤ w.heap.size)
    (h : ∀ v' w' b, RowF T w' base v' (ps ++ [p]) → Below base w w' → Hid (Grew w w' v v') → a.put o.dst v' = b → wpOps P ops Q rest b w') : wpOps P ops Q (i :: rest) a w :=
  ops_one ho hg (wp_append_q s x hop hT hI hs hown hx h0 h1 h2 k1 k2 hlen hbase fun v' w' r b k => h v' w' _ r b k rfl)
end
end Go.Proofs.YtekpnbgchoccmaaGreat.flow
namespace Go.Proofs.YtekpnbgchoccmaaGreat.rat
open Go.RowKit Go.Proofs.YtekpnbgchoccmaaGreat.num Go.Proofs.YtekpnbgchoccmaaGreat.mem Go.Proofs.YtekpnbgchoccmaaGreat.nat Go.Proofs.YtekpnbgchoccmaaGreat.txt Go.Proofs.YtekpnbgchoccmaaGreat.str Go.Proofs.YtekpnbgchoccmaaGreat.flow Go.Proofs.YtekpnbgchoccmaaGreat.whl
set_option linter.unusedVariables false
theorem Grew.trans {w w1 w2 : World} {v v1 v2 : Value} (h : Grew w w1 v v1) (k : Grew w1 w2 v1 v2) : Grew w w2 v v2 := by
  obtain ⟨a1, a2, a3⟩ := h
  obtain ⟨b1, b2, b3⟩ := k
  refine ⟨fun q u l hu hf => ?_, ⟨b2.os.trans a2.os, b2.tape.trans a2.tape, b2.output.trans a2.output, Nat.le_trans a2.size b2.size, fun i hi hne => ?_⟩, fun g hg hne => b3 g (Nat.lt_of_lt_of_le hg a2.size) (a3 g hg hne)⟩
  · have x := a1 q u l hu hf
    exact b1 q u l x.1 x.2
  · rw [b2.block i (Nat.lt_of_lt_of_le hi a2.size) (fun e => a3 i hi (fun e2 => hne e2.symm) e.symm), a2.block i hi hne]
theorem Grew.of_below {w w1 : World} (v : Value) (h : Below w.heap.size w w1) : Grew w w1 v v :=
  ⟨fun q u l hu hf => ⟨hu.below h, hf⟩, ⟨h.os, h.tape, h.output, h.size, fun i hi _ => h.block i hi⟩, fun g _ hne => hne⟩
theorem NewL.below {B B' : Nat} {ps : List Elt} (h : NewL B ps) (hb : B' ≤ B) : NewL B' ps := fun p hp => ⟨(h p hp).1.mono hb, (h p hp).2.mono hb⟩
theorem NewL.far {B : Nat} {ps : List Elt} (h : NewL B ps) {v : Value} (hv : ∀ g, v.ownBlock = some g → g < B) : ∀ p ∈ ps, Far v p.2.1 ∧ Far v p.2.2 := fun p hp => ⟨(h p hp).1.far hv, (h p hp).2.far hv⟩
/-- The table itself stays where one of its rows grows. -/
theorem TabO.mid {k : IntKind} {B : Nat} {T : TypeId} {w w1 : World} {base g n c i : Nat} {TS : TypeId} {us : List Value} {pss : List (List Elt)} {u u' : Value} {ps : List Elt} (hT : T ≠ TS) (h : TabO k B T w base TS (.slice (some ⟨g, 0, none⟩) n c) us pss) (hu : us[i]? = some u) (hps : pss[i]? = some ps) (hgr : Grew w w1 u u') : RowV w1 base TS (.slice (some ⟨g, 0, none⟩) n c) us :=
  World.ownsRow.kept (row := u.ownBlock) h.row hgr.2.1 (.inr fun e => (h.own i u ps hu hps).notRow h.row hT g e.symm rfl)
/-- What the call's own row has become: others behind it, in new memory. -/
def RetApp (T : TypeId) (base : Nat) (a0 : Value) (ps : List Elt) (r : List Rat) (w : World) (e : Ending) (w' : World) : Prop := ∃ u new, e = .returned u ∧ RowF T w' base u (ps ++ new) ∧ new.map (·.1) = r ∧ Grew w w' a0 u ∧ FarF .u64 4294967296 w' u new ∧ NewL w.heap.size new ∧ Below base w w'
set_option linter.unusedSimpArgs false
set_option maxHeartbeats 3200000 in
set_option maxRecDepth 100000 in
theorem mappended_any (a0 a1 : Value) (ps : List Elt) (r : List Rat) (w W : World) (h0 : RowF 46 W w.heap.size a0 ps) (h1 : SlF .u64 4294967296 w a1 r) (hb : Below w.heap.size w W) (hl : ps.length ≤ 1000 ∧ r.length ≤ 1000 ∧ ∀ x ∈ r, lenQ x 100000) :
    Calls Tryz.prog 70 #[a0, a1] W (RetApp 46 w.heap.size a0 ps r W) := by
  have bb : Below w.heap.size w w := Below.refl _ _
  have sl1 := h1
  obtain ⟨A1, c1, rfl, hc1, hm1⟩ := h1.shape
  unfold maxLen at hm1
  have r0 := h0
  obtain ⟨A0, c0, rfl, hc0, hm0, _⟩ := h0.isVF
  have hbase : w.heap.size ≤ W.heap.size := hb.size
  have hbl := h0.base_le
  have HL := Lib.hid hl
  have hps : ps.length ≤ 1000 := hl.1
  have hr2 : r.length ≤ 1000 := hl.2.1
  clear bb hl h0
  have bb : Below w.heap.size w W := hb
  have bW : Below W.heap.size W W := Below.refl _ _
  go_enter Tryz.func70, Tryz.ntmps70
  go_upto_region 1 with (fail)
  have hsz0 := bb.size
  have sB := bb.size
  refine flowp 3 [Pd.eq (.slice A1 r.length c1), Pd.eq (.int .i64 ((r.length : Nat) : Int)), Pd.eq (.int .i64 0)] (by kernel_rfl) ?ob1 ?done1
  case ob1 =>
    refine And.intro (ob_move rfl (wt_none rfl) (ev_far rfl rfl) (fun _ _ h => h)) ?_
    refine And.intro (ob_len rfl (wt_none rfl) (ev_dep (j := 0) (by kernel_rfl) rfl rfl) (fun _ _ hx => ⟨_, by rw [hx]; exact len_slice Tryz.underlying39 _ _ _ _, rfl⟩)) ?_
    refine And.intro (ob_move rfl (wt_none rfl) (ev_const _) (fun _ _ h => h)) ?_
    trivial
  case done1 =>
    refine fun w11 hb11 v0 h0 v1 h1 v2 h2 b hbf => ?_
    obtain rfl := h0; obtain rfl := h1; obtain rfl := h2
    simp only [Act.put, List.setIfInBounds_toArray, List.set_cons_zero, List.set_cons_succ] at hbf
    subst hbf
    replace bb := bb.trans (hb11.mono bb.size)
    have hsz11 := bb.size
    replace bW := bW.trans (hb11.mono bW.size)
    refine ops_done ?_
    go_wp2
    go_loopw [0, 9] (fun v0 v9 wr => ∃ (k : Nat) (new : List Elt), k ≤ r.length ∧ RowF 46 wr w.heap.size v0 (ps ++ new) ∧ Hid (new.map (·.1) = r.take k) ∧ Hid (Grew W wr (.slice A0 ps.length c0) v0) ∧ FarF .u64 4294967296 wr v0 new ∧ NewL W.heap.size new ∧ Below w.heap.size w wr ∧ v9 = .int .i64 (k : Int)) (fun _ v9 _ => r.length - (intOf v9).toNat)
    case atStart => exact ⟨0, [], by omega, by rw [List.append_nil]; exact r0.below bW, rfl, Grew.of_below _ bW, FarF.nil _ _ _ _, NewL.nil _, bb, rfl⟩
    case round =>
      obtain ⟨k, new, hk, hR, HM, HG, hF, hN, hbw, rfl⟩ := hrel
      clear bb bW
      have bb := hbw
      clear hbw
      have hszr := bb.size
      have hsW : W.heap.size ≤ wr.heap.size := HG.out.2.1.size
      by_cases hlt : k < r.length
      · have bl : Below wr.heap.size wr wr := Below.refl _ _
        obtain ⟨AR, cR, hAR, _⟩ := hR.isVF
        subst hAR
        obtain ⟨x, hq1_⟩ : ∃ x, r[k]? = some x := ⟨_, List.getElem?_eq_getElem hlt⟩
        obtain ⟨g1_, o1_, ue1, te1, hA1_, _, e10, e11, e12, es1, ed1⟩ := (sl1.below bb).at_ hq1_
        subst hA1_
        have HQ1 := Lib.hid hq1_
        clear hq1_
        obtain ⟨Ae1, ce1, rfl, _⟩ := id es1
        obtain ⟨De1, ee1, rfl, _⟩ := id ed1
        have ke1 : IsQ wr (.agg #[.bool (ngB x.num), .slice Ae1 (digs 4294967296 x.num.natAbs).length ce1, .slice De1 (digs 4294967296 x.den).length ee1]) x := ⟨_, _, rfl, es1, ed1⟩
        have lx : lenQ x 100000 := HL.out.2.2 x (List.mem_of_getElem? HQ1.out)
        have HNL : Hid (new.length = k) := by
          have h := congrArg List.length HM.out
          rw [List.length_map, List.length_take] at h
          show _ = _
          omega
        have sB := bb.size
        go_upto_region 3 with (fail)
        refine flowp 3 [Pd.eq (.pointer (some ⟨g1_, o1_ + k * 3, none⟩)), Pd.eq (.agg #[.bool (ngB x.num), .slice Ae1 (digs 4294967296 x.num.natAbs).length ce1, .slice De1 (digs 4294967296 x.den).length ee1]), pn 46 #[.bool false, .slice none 0 0, .slice none 0 0] wr.heap.size] (by kernel_rfl) ?ob2 ?done2
        case ob2 =>
          refine And.intro (ob_indexAddr rfl (wt_none rfl) (ev_far rfl rfl) (ev_far rfl rfl) (fun _ _ _ hx hy => ⟨_, by rw [hx, hy]; exact index3 Tryz.underlying39 (by kernel_rfl) hlt _, rfl⟩)) ?_
          refine And.intro (ob_load rfl (wt_none rfl) (ev_dep (j := 0) (by kernel_rfl) rfl rfl) (fun w2 hb => load3 Tryz.underlying46 rfl (by kernel_rfl) ((hb.cell (World.block_lt_of_cell? wr _ e10)).trans e10) ((hb.cell (World.block_lt_of_cell? wr _ e11)).trans e11) ((hb.cell (World.block_lt_of_cell? wr _ e12)).trans e12)) (fun _ _ => rfl)) ?_
          refine And.intro (ob_alloc (z := .agg #[.bool false, .slice none 0 0, .slice none 0 0]) rfl rfl (fun _ => by kernel_rfl) (fun _ _ hB h => ⟨_, rfl, hB, h⟩)) ?_
          trivial
        case done2 =>
          refine fun w13 hb13 v0 h0 v1 h1 v2 h2 d2 b hbf => ?_
          obtain rfl := h0; obtain rfl := h1
          obtain ⟨g2_2, rfl, hg2, B2⟩ := h2
          simp only [Act.put, List.setIfInBounds_toArray, List.set_cons_zero, List.set_cons_succ] at hbf
          subst hbf
          replace es1 := es1.below hb13
          replace ed1 := ed1.below hb13
          replace bb := bb.trans (hb13.mono bb.size)
          have hsz13 := bb.size
          replace bl := bl.trans (hb13.mono bl.size)
          have BA6 := B2
          have q1 := es1
          have d1 := ed1
          refine ops_store (i := 3) rfl rfl rfl rfl rfl rfl (cells := [.bool (ngB (x).num), .slice Ae1 (digs 4294967296 (x).num.natAbs).length ce1, .slice De1 (digs 4294967296 (x).den).length ee1]) rfl BA6 rfl (by kernel_rfl) (one3 rfl rfl rfl) fun w14 hg14 BN14 => ?_
          replace q1 := off q1 BA6 no_ints3 hg14
          replace d1 := off d1 BA6 no_ints3 hg14
          replace bb := bb.trans ((Below.refl _ _).grown hg14 bb.size (fun g hg => by injection hg with hg; omega))
          have hsz14 := bb.size
          have Be1 : Blk w14 (g2_2) _ _ := BN14
          have ke1s := q1
          have ke1d := d1
          have ke1z : IsZ w14 (.agg #[.bool (ngB (x).num), .slice Ae1 (digs 4294967296 (x).num.natAbs).length ce1]) ((x).num) := ⟨_, rfl, ke1s⟩
          have ke1 : IsQ w14 (.agg #[.bool (ngB (x).num), .slice Ae1 (digs 4294967296 (x).num.natAbs).length ce1, .slice De1 (digs 4294967296 (x).den).length ee1]) (x) := ⟨_, _, rfl, ke1s, ke1d⟩
          refine ops_done ?_
          replace bl := bl.trans ((Below.refl _ _).grown hg14 bl.size (fun g hg => by injection hg with hg; omega))
          have nR := (hR.below bl).under
          have hsl := bl.size
          have sB := bb.size
          go_upto_region 4 with (fail)
          refine flowp 4 [Pd.eq (.slice AR (ps ++ new).length cR), Pd.eq (.agg #[.bool (ngB (x).num), .slice Ae1 (digs 4294967296 (x).num.natAbs).length ce1, .slice De1 (digs 4294967296 (x).den).length ee1]), pq (x) w14.heap.size, pone (pq (x) w14.heap.size)] (by kernel_rfl) ?ob3 ?done3
          case ob3 =>
            refine And.intro (ob_move rfl (wt_none rfl) (ev_far rfl rfl) (fun _ _ h => h)) ?_
            refine And.intro (ob_load rfl (wt_none rfl) (ev_far rfl rfl) (fun w2 hb => run_loadAll Tryz.underlying46 rfl (by kernel_rfl) (Be1.below hb)) (fun _ _ => rfl)) ?_
            refine And.intro (ob_call1 rfl Tryz.func55 (by kernel_rfl) (wt_none rfl) (ev_dep (j := 1) (by kernel_rfl) rfl rfl) (fun w2 u0 hb h0 => by obtain rfl := h0; exact (mcopied_any _ x _ (ke1.below hb) lx).mono fun e w3 h => RetQ.pd h hb.size)) ?_
            refine And.intro (ob_build_q (φ := pq (x) w14.heap.size) rfl rfl (ev_dep (j := 2) (by kernel_rfl) rfl rfl) Tryz.underlying39 info_rat (fun w v h => ⟨h, by obtain ⟨⟨u, t, rfl, hu, ht⟩, _⟩ := h; obtain ⟨_, _, rfl, _⟩ := id hu; obtain ⟨_, _, rfl, _⟩ := id ht; exact ⟨_, _, _, rfl, rfl, rfl, rfl⟩⟩) (fun _ _ h => h)) ?_
            trivial
          case done3 =>
            refine fun w15 hb15 v0 h0 v1 h1 v2 h2 v3 h3 b hbf => ?_
            obtain rfl := h0; obtain rfl := h1
            obtain ⟨q2, f2⟩ := h2
            obtain ⟨g3_, x3, y3, z3, rfl, c30, c31, c32, K3⟩ := h3
            simp only [Act.put, List.setIfInBounds_toArray, List.set_cons_zero, List.set_cons_succ] at hbf
            subst hbf
            replace Be1 := Be1.below hb15
            replace ke1s := ke1s.below hb15
            replace ke1d := ke1d.below hb15
            replace ke1z := ke1z.below hb15
            replace ke1 := ke1.below hb15
            replace bb := bb.trans (hb15.mono bb.size)
            have hsz15 := bb.size
            replace bl := bl.trans (hb15.mono bl.size)
            have s_2 := sB
            have hR4 := hR.below bl
            have hF4 := hF.below bl
            have hsz4 := bb.size
            have HL8 : Hid ((ps ++ new).length ≤ 1000000000) := by show _ ≤ _; rw [List.length_append, HNL.out]; omega
            obtain ⟨⟨uE, tE, eE, sE, dE⟩, fE⟩ := K3
            obtain ⟨rfl, rfl, rfl⟩ : x3 = .bool (ngB (x).num) ∧ y3 = uE ∧ z3 = tE := by injection eE with eE; simpa using eE
            clear eE
            obtain ⟨AE, cE, rfl, _⟩ := id sE
            obtain ⟨DE, rE, rfl, _⟩ := id dE
            refine ops_append_q (i := 4) (.tmp 13) (.tmp 16) rfl rfl rfl Tryz.underlying39 info_rat (p := (x, .slice AE (digs 4294967296 (x).num.natAbs).length cE, .slice DE (digs 4294967296 (x).den).length rE)) (ps := (ps ++ new)) rfl hR4 rfl c30 c31 c32 rfl rfl HL8.out hsz4 fun v8 w8 b8 row8 bb8 HK8 hb8 => ?_
            simp only [Act.put, List.setIfInBounds_toArray, List.set_cons_zero, List.set_cons_succ] at hb8
            subst hb8
            have EC : IsE .u64 4294967296 w15 ((x, .slice AE (digs 4294967296 (x).num.natAbs).length cE, .slice DE (digs 4294967296 (x).den).length rE) : Elt) := ⟨sE, dE⟩
            have F8 := hF4.snoc HK8.out.1 EC ((fE _ _ _ rfl).1.far nR) ((fE _ _ _ rfl).2.far nR)
            have NN8 := hN.snoc ((fE _ _ _ rfl).1.mono (show W.heap.size ≤ _ by omega)) ((fE _ _ _ rfl).2.mono (show W.heap.size ≤ _ by omega)) (p := (x, .slice AE (digs 4294967296 (x).num.natAbs).length cE, .slice DE (digs 4294967296 (x).den).length rE))
            refine ops_assign (i := 5) (v8) rfl rfl rfl rfl rfl fun b hbf => ?_
            simp only [Act.put, List.setIfInBounds_toArray, List.set_cons_zero, List.set_cons_succ] at hbf
            subst hbf
            refine ops_done ?_
            have HM8 : Hid ((new ++ [((x, .slice AE (digs 4294967296 (x).num.natAbs).length cE, .slice DE (digs 4294967296 (x).den).length rE) : Elt)]).map (·.1) = r.take (k + 1)) := by
              show _ = _
              rw [List.map_append, HM.out, take_snoc HQ1.out]
              rfl
            have HG8 : Hid (Grew W w8 (.slice A0 ps.length c0) v8) := (HG.out.trans (Grew.of_below _ bl)).trans HK8.out
            have b8 := bb.trans bb8
            rw [List.append_assoc] at row8
            clear HK8 EC fE hR hF hR4 hF4 hN
            have hsk : r.length - (k + 1) < r.length - k := by omega
            go_wp2
            go_roundw
            case rel => exact ⟨k + 1, _, by omega, row8, HM8, HG8, F8, NN8, b8, by go_num⟩
            case measure => simp [intOf]; omega
      · have HME : Hid (new.map (·.1) = r) := by show _ = _; rw [HM.out, List.take_of_length_le (by omega)]
        have hbW : Below w.heap.size W wr := (Below.refl _ W).grown HG.out.2.1 hbase hbl
        clear HM
        go_wp2
        go_ret
        exact ⟨_, new, rfl, hR, HME.out, HG.out, hF, hN, hbW⟩
/-- The program's tables whose rows the call owns. -/
abbrev TabR (w : World) (base : Nat) (V : Value) (us : List Value) (pss : List (List Elt)) : Prop := TabO .u64 4294967296 46 w base 39 V us pss
def RetJoin (base g n c : Nat) (J : List (List Rat)) (w : World) (e : Ending) (w' : World) : Prop := ∃ us pss, e = .returned (.slice (some ⟨g, 0, none⟩) n c) ∧ TabR w' base (.slice (some ⟨g, 0, none⟩) n c) us pss ∧ valq pss = J ∧ us.length = n ∧ Below base w w'
set_option maxHeartbeats 3200000 in
set_option maxRecDepth 100000 in
theorem mjoined_any (g n c : Nat) (a1 : Value) (us : List Value) (pss : List (List Elt)) (t : List (List Rat)) (w W : World) (h0 : TabR W w.heap.size (.slice (some ⟨g, 0, none⟩) n c) us pss) (h1 : SlT .u64 4294967296 w a1 t) (hb : Below w.heap.size w W) (hu : us.length = n) (ht : t.length = n) (hgw : w.heap.size ≤ g)
    (hl : (∀ r ∈ valq pss, r.length ≤ 1000) ∧ (∀ r ∈ t, r.length ≤ 1000) ∧ lenT t 100000) :
    Calls Tryz.prog 43 #[.slice (some ⟨g, 0, none⟩) n c, a1] W (RetJoin w.heap.size g n c (joinq (valq pss) t) W) := by
  have st1 := h1
  obtain ⟨A1, c1, rfl, hc1, hm1⟩ := h1.shape
  unfold maxLen at hm1
  have HL := Lib.hid hl
  have HTN := Lib.hid ht
  have HUN := Lib.hid hu
  have HPT : Hid ((valq pss).length = t.length) := by show _ = _; rw [valq_len, ← h0.len, hu, ht]
  clear hl ht hu
  go_enter Tryz.func43, Tryz.ntmps43
  go_wp2
  go_loopw [9] (fun v9 wr => ∃ (k : Nat) (us' : List Value) (pss' : List (List Elt)), k ≤ t.length ∧ TabR wr w.heap.size (.slice (some ⟨g, 0, none⟩) n c) us' pss' ∧ Hid (valq pss' = jst (valq pss) t k) ∧ us'.length = n ∧ Below w.heap.size W wr ∧ v9 = .int .i64 (k : Int)) (fun v9 _ => t.length - (intOf v9).toNat)
  case atStart => exact ⟨0, us, pss, by omega, h0, by show _ = _; rw [jst_zero], HUN.out, Below.refl _ _, rfl⟩
  case round =>
    obtain ⟨k, us', pss', hk, hT, HJ, hul, hbW, rfl⟩ := hrel
    have HUL := Lib.hid hul
    clear hul
    have bb : Below w.heap.size w wr := hb.trans hbW
    by_cases hlt : k < t.length
    · have hnt : t ≠ [] := List.length_pos_iff.1 (by omega)
      obtain ⟨x, hx⟩ : ∃ x, t[k]? = some x := ⟨_, List.getElem?_eq_getElem hlt⟩
      have HX := Lib.hid hx
      have hxm := List.mem_of_getElem? hx
      obtain ⟨ad, rfl⟩ := st1.place hnt
      obtain ⟨Ax, cx, hi, ewx, srx⟩ := st1.at2 hx
      have ecx := (bb.cell (World.block_lt_of_cell? w _ ewx)).trans ewx
      have hkn : k < n := by have := HTN.out; omega
      obtain ⟨u, hu'⟩ : ∃ u, us'[k]? = some u := ⟨_, List.getElem?_eq_getElem (by have := HUL.out; omega)⟩
      obtain ⟨ps, hps⟩ : ∃ ps, pss'[k]? = some ps := ⟨_, List.getElem?_eq_getElem (by rw [← hT.len]; have := HUL.out; omega)⟩
      have HU := Lib.hid hu'
      have HPS := Lib.hid hps
      obtain ⟨p, hp⟩ : ∃ p, (valq pss)[k]? = some p := ⟨_, List.getElem?_eq_getElem (by rw [HPT.out]; exact hlt)⟩
      have HP : Hid (ps.map (·.1) = p) := by
        have h2 := valq_at hps
        rw [HJ.out, jst_at HPT.out hp] at h2
        exact (Option.some.inj h2).symm
      have HJ2 : Hid ((jst (valq pss) t k).set k (p ++ x) = jst (valq pss) t (k + 1)) := jst_set HPT.out hp hx
      have hpl : ps.length ≤ 1000 := by
        have h2 := congrArg List.length HP.out
        rw [List.length_map] at h2
        rw [h2]
        exact HL.out.1 p (List.mem_of_getElem? hp)
      have hown := hT.own k u ps hu' hps
      have lxl : x.length ≤ 1000 := HL.out.2.1 x hxm
      have lx : ∀ y ∈ x, lenQ y 100000 := HL.out.2.2 x hxm
      have hcell := hT.cell hu'
      obtain ⟨Au, cu, eu, hcu⟩ := hown.isVF
      subst eu
      have HT := Lib.hid hT
      clear hx hxm hu' hps hp hT
      go_wp2_with fail
      refine (mappended_any _ _ ps x w wr hown srx bb ⟨hpl, lxl, lx⟩).mono ?_
      rintro e w2 ⟨u2, new, rfl, hrow, hmap, hgr, hfar, hnew, b2⟩
      have hV := HT.out.mid (by decide) HU.out HPS.out hgr
      have hc2 := hV.cellAt HU.out
      have hf2 := hV.frozenAt k
      have hT2 := HT.out.put (by decide) HU.out HPS.out hrow hgr hfar (fun v hv q hq => by
        have h2 := HT.out.farNew ((hnew q hq).1)
        have h3 := HT.out.farNew ((hnew q hq).2)
        exact ⟨h2.1 v hv, h3.1 v hv⟩) (fun q hq => ⟨(HT.out.farNew ((hnew q hq).1)).2, (HT.out.farNew ((hnew q hq).2)).2⟩)
      obtain ⟨A2, c2, e2, hc2'⟩ := hrow.isVF
      rw [List.length_append] at e2
      subst e2
      have HJ3 : Hid (valq (pss'.set k (ps ++ new)) = jst (valq pss) t (k + 1)) := by
        show _ = _
        rw [valq_set, HJ.out, List.map_append, HP.out, hmap, HJ2.out]
      have hul2 : (us'.set k (.slice A2 (ps.length + new.length) c2)).length = n := by rw [List.length_set]; exact HUL.out
      have hb3 := (hbW.trans b2).setCell (p := ⟨g, k, none⟩) hgw (.slice A2 (ps.length + new.length) c2)
      have hsk : t.length - (k + 1) < t.length - k := by omega
      clear hrow hgr hfar hnew hV hown ecx hcell
      go_wp2
      go_roundw
      case rel => exact ⟨k + 1, _, _, by omega, hT2, HJ3, hul2, hb3, by go_num⟩
      case measure => simp [intOf]; omega
    · have HJE : Hid (valq pss' = joinq (valq pss) t) := by show _ = _; rw [HJ.out, jst_full HPT.out (by omega)]
      go_wp2
      go_ret
      exact ⟨us', pss', rfl, hT, HJE.out, HUL.out, hbW⟩
set_option maxHeartbeats 6400000 in
set_option maxRecDepth 100000 in
theorem mturned_any (a0 : Value) (t : List (List Rat)) (w : World) (h0 : SlT .u64 4294967296 w a0 t) (hl : t.length ≤ 1000 ∧ wideq t ≤ 1000 ∧ evenq t ∧ lenT t 100000) :
    Calls Tryz.prog 56 #[a0] w (RetSlT .u64 4294967296 (turnq t) w) := by
  have bb : Below w.heap.size w w := Below.refl _ _
  have st0 := h0
  obtain ⟨A0, c0, rfl, hc0, hm0⟩ := h0.shape
  unfold maxLen at hm0
  have HL := Lib.hid hl
  have ht2 : t.length ≤ 1000 := hl.1
  have hw2 : wideq t ≤ 1000 := hl.2.1
  clear hl
  go_enter Tryz.func56, Tryz.ntmps56
  go_upto_region 1 with (fail)
  have hsz0 := bb.size
  have sB := bb.size
  refine flowp 7 [Pd.eq (.slice A0 t.length c0), Pd.eq (.tuple #[.int .i64 ((t.length : Nat) : Int), .int .i64 ((wideq t : Nat) : Int)]), Pd.eq (.tuple #[.int .i64 ((t.length : Nat) : Int), .int .i64 ((wideq t : Nat) : Int)]), Pd.eq (.int .i64 ((t.length : Nat) : Int)), Pd.eq (.int .i64 ((wideq t : Nat) : Int)), Pd.eq (.int .i64 ((t.length : Nat) : Int)), Pd.eq (.int .i64 ((wideq t : Nat) : Int))] (by kernel_rfl) ?ob1 ?done1
  case ob1 =>
    refine And.intro (ob_move rfl (wt_none rfl) (ev_far rfl rfl) (fun _ _ h => h)) ?_
    refine And.intro (ob_call1 rfl Tryz.func8 (by kernel_rfl) (wt_none rfl) (ev_dep (j := 0) (by kernel_rfl) rfl rfl) (fun w2 u0 hb h0 => by obtain rfl := h0; exact (msize_any _ t _ ((st0.below bb).below hb)).mono fun e w3 h => RetV.pd h)) ?_
    refine And.intro (ob_move rfl (wt_none rfl) (ev_dep (j := 1) (by kernel_rfl) rfl rfl) (fun _ _ h => h)) ?_
    refine And.intro (ob_extract rfl (wt_none rfl) (ev_dep (j := 2) (by kernel_rfl) rfl rfl) (fun w2 u hu => by obtain rfl := hu; exact ⟨_, rfl, rfl⟩)) ?_
    refine And.intro (ob_extract rfl (wt_none rfl) (ev_dep (j := 2) (by kernel_rfl) rfl rfl) (fun w2 u hu => by obtain rfl := hu; exact ⟨_, rfl, rfl⟩)) ?_
    refine And.intro (ob_assign rfl (wt_none rfl) (ev_dep (j := 3) (by kernel_rfl) rfl rfl) (fun _ _ h => h)) ?_
    refine And.intro (ob_assign rfl (wt_none rfl) (ev_dep (j := 4) (by kernel_rfl) rfl rfl) (fun _ _ h => h)) ?_
    trivial
  case done1 =>
    refine fun w11 hb11 v0 h0 v1 h1 v2 h2 v3 h3 v4 h4 v5 h5 v6 h6 b hbf => ?_
    obtain rfl := h0; obtain rfl := h1; obtain rfl := h2; obtain rfl := h3; obtain rfl := h4; obtain rfl := h5; obtain rfl := h6
    simp only [Act.put, List.setIfInBounds_toArray, List.set_cons_zero, List.set_cons_succ] at hbf
    subst hbf
    replace bb := bb.trans (hb11.mono bb.size)
    have hsz11 := bb.size
    refine ops_done ?_
    have sB := bb.size
    go_upto_region 2 with (fail)
    refine flowp 3 [Pd.eq (.int .i64 ((wideq t : Nat) : Int)), pbar (wideq t) 39 w11.heap.size, pbar (wideq t) 39 w11.heap.size] (by kernel_rfl) ?ob2 ?done2
    case ob2 =>
      refine And.intro (ob_move rfl (wt_none rfl) (ev_far rfl rfl) (fun _ _ h => h)) ?_
      refine And.intro (ob_call1 rfl Tryz.func32 (by kernel_rfl) (wt_none rfl) (ev_dep (j := 0) (by kernel_rfl) rfl rfl) (fun w2 u0 hb h0 => by obtain rfl := h0; exact (mbare_any _ ((wideq t)) _ rfl (by omega)).mono fun e w3 h => RetBar.pd h hb.size)) ?_
      refine And.intro (ob_assign rfl (wt_none rfl) (ev_dep (j := 1) (by kernel_rfl) rfl rfl) (fun _ _ h => h)) ?_
      trivial
    case done2 =>
      refine fun w12 hb12 v0 h0 v1 h1 v2 h2 b hbf => ?_
      obtain rfl := h0
      have q1 := h1
      have q2 := h2
      simp only [Act.put, List.setIfInBounds_toArray, List.set_cons_zero, List.set_cons_succ] at hbf
      subst hbf
      replace bb := bb.trans (hb12.mono bb.size)
      have hsz12 := bb.size
      refine ops_done ?_
      obtain ⟨g, rfl, TB, hg⟩ := q2
      have hgw : w.heap.size ≤ g := by omega
      have hT0 : TabR w12 w.heap.size (.slice (some ⟨g, 0, none⟩) (wideq t) (wideq t)) (List.replicate (wideq t) (.slice none 0 0)) (List.replicate (wideq t) []) := TB.owned hgw (by omega)
      clear TB
      go_wp2
      go_loopw [19] (fun v19 wr => ∃ (k : Nat) (us : List Value) (pss : List (List Elt)), k ≤ t.length ∧ TabR wr w.heap.size (.slice (some ⟨g, 0, none⟩) (wideq t) (wideq t)) us pss ∧ Hid (valq pss = tst t k 0) ∧ Hid (us.length = wideq t) ∧ Below w.heap.size w wr ∧ v19 = .int .i64 (k : Int)) (fun v19 _ => t.length - (intOf v19).toNat)
      case atStart => exact ⟨0, _, _, by omega, hT0, by show _ = _; rw [valq_nil, tst_zero], by show _ = _; simp, bb, rfl⟩
      case round =>
        obtain ⟨k, us, pss, hk, hT, HV, HUL, hbw, rfl⟩ := hrel
        clear hT0 bb
        have bb := hbw
        clear hbw
        have hszr := bb.size
        by_cases hlt : k < t.length
        · have hnt : t ≠ [] := List.length_pos_iff.1 (by omega)
          obtain ⟨x, hx⟩ : ∃ x, t[k]? = some x := ⟨_, List.getElem?_eq_getElem hlt⟩
          have HX := Lib.hid hx
          have hxm := List.mem_of_getElem? hx
          have HXL : Hid (x.length = wideq t) := HL.out.2.2.1 x hxm
          have lx : ∀ y ∈ x, lenQ y 100000 := HL.out.2.2.2 x hxm
          obtain ⟨ad0, rfl⟩ := st0.place hnt
          obtain ⟨Arx, crx, hix, ewx, srx⟩ := st0.at2 hx
          clear hx hxm
          have ecx := (bb.cell (World.block_lt_of_cell? w _ ewx)).trans ewx
          have bl : Below wr.heap.size wr wr := Below.refl _ _
          have sB := bb.size
          go_upto_region 5 with (fail)
          refine flowp 3 [Pd.eq (.pointer (some (ad0.add k))), Pd.eq (.slice Arx x.length crx), Pd.eq (.slice Arx x.length crx)] (by kernel_rfl) ?ob3 ?done3
          case ob3 =>
            refine And.intro (ob_indexAddr rfl (wt_none rfl) (ev_far rfl rfl) (ev_far rfl rfl) (fun _ _ _ hx hy => ⟨_, by rw [hx, hy]; exact index1_any (k := k) Tryz.underlying22 (by kernel_rfl) ad0 hlt _, rfl⟩)) ?_
            refine And.intro (ob_load rfl (wt_none rfl) (ev_dep (j := 0) (by kernel_rfl) rfl rfl) (fun w2 hb => run_load1 Tryz.underlying39 rfl ((hb.cell (World.block_lt_of_cell? wr _ ecx)).trans ecx)) (fun _ _ => rfl)) ?_
            refine And.intro (ob_assign rfl (wt_none rfl) (ev_dep (j := 1) (by kernel_rfl) rfl rfl) (fun _ _ h => h)) ?_
            trivial
          case done3 =>
            refine fun w14 hb14 v0 h0 v1 h1 v2 h2 b hbf => ?_
            obtain rfl := h0; obtain rfl := h1; obtain rfl := h2
            simp only [Act.put, List.setIfInBounds_toArray, List.set_cons_zero, List.set_cons_succ] at hbf
            subst hbf
            replace bb := bb.trans (hb14.mono bb.size)
            have hsz14 := bb.size
            replace bl := bl.trans (hb14.mono bl.size)
            refine ops_done ?_
            clear ecx
            have sB := bb.size
            go_upto_region 6 with (fail)
            refine flowp 3 [Pd.eq (.slice Arx x.length crx), Pd.eq (.int .i64 ((x.length : Nat) : Int)), Pd.eq (.int .i64 0)] (by kernel_rfl) ?ob4 ?done4
            case ob4 =>
              refine And.intro (ob_move rfl (wt_none rfl) (ev_far rfl rfl) (fun _ _ h => h)) ?_
              refine And.intro (ob_len rfl (wt_none rfl) (ev_dep (j := 0) (by kernel_rfl) rfl rfl) (fun _ _ hx => ⟨_, by rw [hx]; exact len_slice Tryz.underlying39 _ _ _ _, rfl⟩)) ?_
              refine And.intro (ob_move rfl (wt_none rfl) (ev_const _) (fun _ _ h => h)) ?_
              trivial
            case done4 =>
              refine fun w15 hb15 v0 h0 v1 h1 v2 h2 b hbf => ?_
              obtain rfl := h0; obtain rfl := h1; obtain rfl := h2
              simp only [Act.put, List.setIfInBounds_toArray, List.set_cons_zero, List.set_cons_succ] at hbf
              subst hbf
              replace bb := bb.trans (hb15.mono bb.size)
              have hsz15 := bb.size
              replace bl := bl.trans (hb15.mono bl.size)
              refine ops_done ?_
              have hT1 := hT.below bl
              go_wp2
              go_loopw [25] (fun v25 wr => ∃ (i : Nat) (us' : List Value) (pss' : List (List Elt)), i ≤ x.length ∧ TabR wr w.heap.size (.slice (some ⟨g, 0, none⟩) (wideq t) (wideq t)) us' pss' ∧ Hid (valq pss' = tst t k i) ∧ Hid (us'.length = wideq t) ∧ Below w.heap.size w wr ∧ v25 = .int .i64 (i : Int)) (fun v25 _ => x.length - (intOf v25).toNat)
              case atStart => exact ⟨0, _, _, by omega, hT1, HV, HUL, bb, rfl⟩
              case round =>
                obtain ⟨i, us', pss', hi, hTi, HVi, HULi, hbw, rfl⟩ := hrel
                clear hT1 hT bb bl HV HUL
                have bb := hbw
                clear hbw
                have hszi := bb.size
                by_cases hlti : i < x.length
                · have bl : Below wr.heap.size wr wr := Below.refl _ _
                  have hxne : x ≠ [] := List.length_pos_iff.1 (by omega)
                  have sl9 := srx
                  obtain ⟨y, hq9_⟩ : ∃ y, x[i]? = some y := ⟨_, List.getElem?_eq_getElem hlti⟩
                  obtain ⟨g9_, o9_, ue9, te9, hA9_, _, e90, e91, e92, es9, ed9⟩ := (sl9.below bb).at_ hq9_
                  subst hA9_
                  have HQ9 := Lib.hid hq9_
                  clear hq9_
                  obtain ⟨Ae9, ce9, rfl, _⟩ := id es9
                  obtain ⟨De9, ee9, rfl, _⟩ := id ed9
                  have ke9 : IsQ wr (.agg #[.bool (ngB y.num), .slice Ae9 (digs 4294967296 y.num.natAbs).length ce9, .slice De9 (digs 4294967296 y.den).length ee9]) y := ⟨_, _, rfl, es9, ed9⟩
                  have sB := bb.size
                  go_upto_region 8 with (fail)
                  refine flowp 5 [Pd.eq (.int .i64 (i : Int)), Pd.eq (.pointer (some ⟨g9_, o9_ + i * 3, none⟩)), Pd.eq (.agg #[.bool (ngB y.num), .slice Ae9 (digs 4294967296 y.num.natAbs).length ce9, .slice De9 (digs 4294967296 y.den).length ee9]), pn 46 #[.bool false, .slice none 0 0, .slice none 0 0] wr.heap.size, Pd.eq (.int .i64 (i : Int))] (by kernel_rfl) ?ob5 ?done5
                  case ob5 =>
                    refine And.intro (ob_move rfl (wt_none rfl) (ev_far rfl rfl) (fun _ _ h => h)) ?_
                    refine And.intro (ob_indexAddr rfl (wt_none rfl) (ev_far rfl rfl) (ev_far rfl rfl) (fun _ _ _ hx hy => ⟨_, by rw [hx, hy]; exact index3 Tryz.underlying39 (by kernel_rfl) hlti _, rfl⟩)) ?_
                    refine And.intro (ob_load rfl (wt_none rfl) (ev_dep (j := 1) (by kernel_rfl) rfl rfl) (fun w2 hb => load3 Tryz.underlying46 rfl (by kernel_rfl) ((hb.cell (World.block_lt_of_cell? wr _ e90)).trans e90) ((hb.cell (World.block_lt_of_cell? wr _ e91)).trans e91) ((hb.cell (World.block_lt_of_cell? wr _ e92)).trans e92)) (fun _ _ => rfl)) ?_
                    refine And.intro (ob_alloc (z := .agg #[.bool false, .slice none 0 0, .slice none 0 0]) rfl rfl (fun _ => by kernel_rfl) (fun _ _ hB h => ⟨_, rfl, hB, h⟩)) ?_
                    refine And.intro (ob_assign rfl (wt_none rfl) (ev_dep (j := 0) (by kernel_rfl) rfl rfl) (fun _ _ h => h)) ?_
                    trivial
                  case done5 =>
                    refine fun w17 hb17 v0 h0 v1 h1 v2 h2 v3 h3 d3 v4 h4 b hbf => ?_
                    obtain rfl := h0; obtain rfl := h1; obtain rfl := h2; obtain rfl := h4
                    obtain ⟨g5_3, rfl, hg3, B3⟩ := h3
                    simp only [Act.put, List.setIfInBounds_toArray, List.set_cons_zero, List.set_cons_succ] at hbf
                    subst hbf
                    replace es9 := es9.below hb17
                    replace ed9 := ed9.below hb17
                    replace bb := bb.trans (hb17.mono bb.size)
                    have hsz17 := bb.size
                    replace bl := bl.trans (hb17.mono bl.size)
                    have BA9 := B3
                    have q2 := es9
                    have d2 := ed9
                    refine ops_store (i := 5) rfl rfl rfl rfl rfl rfl (cells := [.bool (ngB (y).num), .slice Ae9 (digs 4294967296 (y).num.natAbs).length ce9, .slice De9 (digs 4294967296 (y).den).length ee9]) rfl BA9 rfl (by kernel_rfl) (one3 rfl rfl rfl) fun w18 hg18 BN18 => ?_
                    replace q2 := off q2 BA9 no_ints3 hg18
                    replace d2 := off d2 BA9 no_ints3 hg18
                    replace bb := bb.trans ((Below.refl _ _).grown hg18 bb.size (fun g hg => by injection hg with hg; omega))
                    have hsz18 := bb.size
                    have Be9 : Blk w18 (g5_3) _ _ := BN18
                    have ke9s := q2
                    have ke9d := d2
                    have ke9z : IsZ w18 (.agg #[.bool (ngB (y).num), .slice Ae9 (digs 4294967296 (y).num.natAbs).length ce9]) ((y).num) := ⟨_, rfl, ke9s⟩
                    have ke9 : IsQ w18 (.agg #[.bool (ngB (y).num), .slice Ae9 (digs 4294967296 (y).num.natAbs).length ce9, .slice De9 (digs 4294967296 (y).den).length ee9]) (y) := ⟨_, _, rfl, ke9s, ke9d⟩
                    refine ops_done ?_
                    replace bl := bl.trans ((Below.refl _ _).grown hg18 bl.size (fun g hg => by injection hg with hg; omega))
                    have ly : lenQ y 100000 := lx y (List.mem_of_getElem? HQ9.out)
                    have hiw : i < wideq t := by have := HXL.out; omega
                    obtain ⟨u, hu⟩ : ∃ u, us'[i]? = some u := ⟨_, List.getElem?_eq_getElem (by have := HULi.out; omega)⟩
                    obtain ⟨ps, hps⟩ : ∃ ps, pss'[i]? = some ps := ⟨_, List.getElem?_eq_getElem (by rw [← hTi.len]; have := HULi.out; omega)⟩
                    have HU := Lib.hid hu
                    have HPS := Lib.hid hps
                    have HP : Hid (ps.map (·.1) = colq (t.take k) i) := by
                      have h2 := valq_at hps
                      rw [HVi.out, tst_self hiw] at h2
                      exact (Option.some.inj h2).symm
                    have HST : Hid ((tst t k i).set i (colq (t.take k) i ++ [y]) = tst t k (i + 1)) := tst_set hiw HX.out HQ9.out
                    have HL8 : Hid (ps.length ≤ 1000000000) := by
                      have h2 := congrArg List.length HP.out
                      rw [List.length_map, colq_len, List.length_take] at h2
                      show _ ≤ _
                      omega
                    have bd := bl.drew
                    have TD := hTi.below bd
                    obtain ⟨Au, cu, eu, _⟩ := (TD.own i u ps hu hps).isVF
                    subst eu
                    have cD := TD.cell hu
                    have fD := TD.frozen i
                    have TDH := Lib.hid TD
                    have K_ := Lib.hid ke9
                    have Be9d : Blk w18.drew _ _ _ := Be9.drew
                    obtain ⟨x90, x91, x92, _, _, _⟩ := three Be9d
                    have hszD : w.heap.size ≤ w18.drew.heap.size := by have := bb.size; exact this
                    have ks_ := (ke9s).below (Below.refl _ w18).drew
                    have kd_ := (ke9d).below (Below.refl _ w18).drew
                    clear hu hps TD hTi
                    go_upto_region 9 with (fail)
                    go_region_law (first
                      | (refine step_append_q rfl (.tmp 35) (.tmp 38) rfl Tryz.underlying39 info_rat (v := .slice Au ps.length cu) (p := (y, .slice A6 (digs 4294967296 (y).num.natAbs).length c6, .slice D6 (digs 4294967296 (y).den).length e6)) (ps := ps) (by rfl) (by exact rC) (ad := ⟨w6.heap.size, 0, none⟩) (c := 1) (by rfl) (by exact cC0) (by exact cC1) (by exact cC2) rfl rfl HL8.out (by exact hszC) ?_; intro v7 w7 row7 bb7 HK7; have hV7 := TC.mid (by decide) HU.out HPS.out HK7.out; have c7 := hV7.cellAt HU.out; have f7 := hV7.frozenAt i; obtain ⟨A7, c7_, e7, _⟩ := row7.isVF; rw [List.length_append] at e7; subst e7)
                      | (go_simp; go_at_call 55; refine (mcopied_any _ y _ ⟨_, _, rfl, (by exact ks_), (by exact kd_)⟩ ly).mono ?_; rintro e w6 ⟨v6, rfl, k6, f6, b6⟩; have T6 := TDH.out.below b6; have cell6 := T6.cell HU.out; obtain ⟨u6, t6, rfl, q6, d6⟩ := k6; obtain ⟨A6, c6, rfl, _⟩ := id q6; obtain ⟨D6, e6, rfl, _⟩ := id d6; obtain ⟨cC0, cC1, cC2⟩ := new_cells w6 46 (.bool (ngB (y).num)) (.slice A6 (digs 4294967296 (y).num.natAbs).length c6) (.slice D6 (digs 4294967296 (y).den).length e6); have ba6 := below_alloc (w := w6) (Nat.le_refl _) (.cells #[.bool (ngB (y).num), .slice A6 (digs 4294967296 (y).num.natAbs).length c6, .slice D6 (digs 4294967296 (y).den).length e6] 46); have TC := T6.below ba6; have rC := TC.own i _ ps HU.out HPS.out; have hszC : w.heap.size ≤ (w6.alloc (.cells #[.bool (ngB (y).num), .slice A6 (digs 4294967296 (y).num.natAbs).length c6, .slice D6 (digs 4294967296 (y).den).length e6] 46)).heap.size := Nat.le_trans (Nat.le_trans hszD b6.size) ba6.size; have cellC := TC.cell HU.out))
                    all_goals
                      have fr1 := TDH.out.farNew (f6 _ _ _ rfl).1
                      have fr2 := TDH.out.farNew (f6 _ _ _ rfl).2
                      have hum := List.mem_of_getElem? HU.out
                      have EC : IsE .u64 4294967296 (w6.alloc (.cells #[.bool (ngB (y).num), .slice A6 (digs 4294967296 (y).num.natAbs).length c6, .slice D6 (digs 4294967296 (y).den).length e6] 46)) ((y, .slice A6 (digs 4294967296 (y).num.natAbs).length c6, .slice D6 (digs 4294967296 (y).den).length e6) : Elt) := ⟨q6.below ba6, d6.below ba6⟩
                      have F7 := (FarF.nil .u64 4294967296 (w6.alloc (.cells #[.bool (ngB (y).num), .slice A6 (digs 4294967296 (y).num.natAbs).length c6, .slice D6 (digs 4294967296 (y).den).length e6] 46)) (.slice Au ps.length cu)).snoc HK7.out.1 EC (fr1.1 _ hum) (fr2.1 _ hum)
                      have T8 := TC.put (by decide) HU.out HPS.out row7 HK7.out F7 (fun v hv q hq => by rw [List.mem_singleton.1 hq]; exact ⟨fr1.1 v hv, fr2.1 v hv⟩) (fun q hq => by rw [List.mem_singleton.1 hq]; exact ⟨fr1.2, fr2.2⟩)
                      have HV8 : Hid (valq (pss'.set i (ps ++ [((y, .slice A6 (digs 4294967296 (y).num.natAbs).length c6, .slice D6 (digs 4294967296 (y).den).length e6) : Elt)])) = tst t k (i + 1)) := by
                        show _ = _
                        rw [valq_set, HVi.out, List.map_append, HP.out]
                        exact HST.out
                      have b8 := ((((bb.drew).trans (b6.mono hszD)).trans (ba6.mono (Nat.le_trans hszD b6.size))).trans bb7).setCell (p := ⟨g, i, none⟩) hgw (.slice A7 (ps.length + [((y, .slice A6 (digs 4294967296 (y).num.natAbs).length c6, .slice D6 (digs 4294967296 (y).den).length e6) : Elt)].length) c7_)
                      have HUL8 : Hid ((us'.set i (.slice A7 (ps.length + [((y, .slice A6 (digs 4294967296 (y).num.natAbs).length c6, .slice D6 (digs 4294967296 (y).den).length e6) : Elt)].length) c7_)).length = wideq t) := by show _ = _; rw [List.length_set]; exact HULi.out
                      have hsk : x.length - (i + 1) < x.length - i := by omega
                      clear TC T6 row7 HK7 hV7 rC cC0 cC1 cC2 cellC cell6 F7 EC ks_ kd_ b6 ba6 bb7 q6 d6
                      go_wp2
                      go_roundw
                      case rel => exact ⟨i + 1, _, _, by omega, T8, HV8, HUL8, b8, by go_num⟩
                      case measure => simp [intOf]; omega
                · obtain rfl : i = x.length := by omega
                  have HV9 : Hid (valq pss' = tst t (k + 1) 0) := by show _ = _; rw [HVi.out, HXL.out, tst_next]
                  clear HVi
                  go_wp2
                  refine ⟨⟨k + 1, us', pss', by omega, hTi, HV9, HULi, bb, by go_num⟩, ?_⟩
                  simp [intOf]; omega
        · obtain rfl : k = t.length := by omega
          have hS := hT.slT
          rw [HV.out, tst_end] at hS
          clear hT HV
          go_wp2
          go_ret
          exact ⟨_, rfl, hS, bb⟩
theorem heap_setCell {w : World} {g i : Nat} {u : Value} {cs : Array Value} {e : TypeId} (h : w.heap[g]? = some (.cells cs e (0, 0))) : (w.setCell ⟨g, i, none⟩ u).heap[g]? = some (.cells (cs.setIfInBounds i u) e (0, 0)) := by
  simp [World.setCell, Array.getElem?_modify, h]
theorem TabS.stored {k : IntKind} {B : Nat} {w : World} {g : Nat} {TS : TypeId} {us : List Value} {t : List (List Rat)} (h : TabS k B w g TS us t) (i : Nat) {u : Value} {r : List Rat} (hu : SlF k B w u r) : TabS k B (w.setCell ⟨g, i, none⟩ u) g TS (us.set i u) (t.set i r) := h.put (grown_set w g i u) (heap_setCell h.1.1) hu
theorem TabS.cellAt {k : IntKind} {B : Nat} {w : World} {g : Nat} {TS : TypeId} {us : List Value} {t : List (List Rat)} (h : TabS k B w g TS us t) {i : Nat} (hi : i < t.length) : ∃ u, w.cell? ⟨g, i, none⟩ = some u := by
  have hu : us[i]? = some (us[i]'(by rw [h.2.1]; exact hi)) := List.getElem?_eq_getElem _
  have := h.1.cell hu
  rw [addr_zero] at this
  exact ⟨_, this⟩
theorem TabS.frozenAt {k : IntKind} {B : Nat} {w : World} {g : Nat} {TS : TypeId} {us : List Value} {t : List (List Rat)} (h : TabS k B w g TS us t) (i : Nat) : w.frozen? ⟨g, i, none⟩ = false := h.1.1.frozen i
theorem partq_len {α : Type} {T : List (List α)} {k n : Nat} (h : T.length = n) (hk : k ≤ n) : (partq T k n).length = n := by
  unfold partq
  rw [List.length_append, List.length_take, List.length_replicate, h]; omega
theorem retTE_no (n : Int) (hn : n ≠ 0) {w w' : World} (hb : Below w.heap.size w w') : RetTE [] n w (.returned (.tuple #[.slice none 0 0, .int .i64 n])) w' := ⟨_, rfl, by rw [if_neg hn]; exact slT_nil _ _ _, hb⟩
set_option maxHeartbeats 3200000 in
set_option maxRecDepth 100000 in
theorem mproduct_any (a0 a1 : Value) (p q : List (List Rat)) (m n : Nat) (w : World) (h0 : SlT .u64 4294967296 w a0 p) (h1 : SlT .u64 4294967296 w a1 q) (he : ∀ r ∈ p, r.length = q.length)
    (hl : p.length ≤ 1000 ∧ q.length ≤ 1000 ∧ wideq q ≤ 1000 ∧ evenq q ∧ lenT p m ∧ lenT q n ∧ 1 ≤ n ∧ n ≤ 900 ∧ (n + m + 1) * q.length + 1 ≤ 900) :
    Calls Tryz.prog 44 #[a0, a1] w (RetSlT .u64 4294967296 (mulq p q) w) := by
  have st0 := h0
  obtain ⟨A0, c0, rfl, hc0, hm0⟩ := h0.shape
  unfold maxLen at hm0
  have st1 := h1
  obtain ⟨A1, c1, rfl, hc1, hm1⟩ := h1.shape
  unfold maxLen at hm1
  have HL := Lib.hid hl
  have HE := Lib.hid he
  have hpl : p.length ≤ 1000 := hl.1
  have HTQ : Hid (q.length ≤ 1000 ∧ wideq q ≤ 1000 ∧ evenq q ∧ lenT q 100000) := ⟨hl.2.1, hl.2.2.1, hl.2.2.2.1, hl.2.2.2.2.2.1.mono (Nat.le_trans hl.2.2.2.2.2.2.2.1 (by decide))⟩
  have HTT : Hid ((mulq p q).length = p.length) := mulq_len p q
  have HD : Hid ((turnq q).length ≤ 1000 ∧ lenT (turnq q) n) := ⟨by rw [turnq_len]; exact hl.2.2.1, lenT_turn hl.2.2.2.2.2.1 hl.2.2.2.2.2.2.1⟩
  clear hl he
  go_enter Tryz.func44, Tryz.ntmps44
  go_wp2_with fail
  refine (mturned_any _ q _ st1 HTQ.out).mono ?_
  rintro e w2 ⟨C, rfl, SC, b2⟩
  obtain ⟨AC, cC, rfl, hcC, hmC⟩ := SC.shape
  go_wp2_with fail
  refine (mbare_any _ p.length _ rfl (by omega)).mono ?_
  rintro e w3 ⟨g, rfl, TB, hg, b3⟩
  have TS0 : TabS .u64 4294967296 w3 g 39 (List.replicate p.length (.slice none 0 0)) (partq (mulq p q) 0 p.length) := by rw [partq_zero]; exact TB.bare
  clear TB
  go_wp2
  go_loopw [16] (fun v16 wr => ∃ (k : Nat) (us : List Value), k ≤ p.length ∧ TabS .u64 4294967296 wr g 39 us (partq (mulq p q) k p.length) ∧ Below w2.heap.size w2 wr ∧ v16 = .int .i64 (k : Int)) (fun v16 _ => p.length - (intOf v16).toNat)
  case atStart => exact ⟨0, _, by omega, TS0, b3, rfl⟩
  case round =>
    obtain ⟨k, us, hk, TS, hb2, rfl⟩ := hrel
    clear TS0 b3
    have bb : Below w.heap.size w wr := b2.trans (hb2.mono b2.size)
    by_cases hlt : k < p.length
    · have hnp : p ≠ [] := List.length_pos_iff.1 (by omega)
      obtain ⟨x, hx⟩ : ∃ x, p[k]? = some x := ⟨_, List.getElem?_eq_getElem hlt⟩
      have hxm := List.mem_of_getElem? hx
      obtain ⟨ad, rfl⟩ := st0.place hnp
      obtain ⟨Ax, cx, hi, ewx, srx⟩ := st0.at2 hx
      have ecx := (bb.cell (World.block_lt_of_cell? w _ ewx)).trans ewx
      have HXL : Hid (x.length = q.length) := HE.out x hxm
      have HAT : Hid ((mulq p q)[k]? = some (dotsq (turnq q) x)) := by show _ = _; rw [dotsq_turn]; exact mulq_at hx
      have SCr := SC.below hb2
      have HDX : Hid ((∀ r ∈ turnq q, r.length = x.length) ∧ (turnq q).length ≤ 1000 ∧ x.length ≤ 1000 ∧ lenT (turnq q) n ∧ (∀ y ∈ x, lenQ y m) ∧ (n + m + 1) * x.length + 1 ≤ 900) := ⟨fun r hr => by rw [turnq_rows r hr, HXL.out], HD.out.1, by rw [HXL.out]; exact HL.out.2.1, HD.out.2, HL.out.2.2.2.2.1 x hxm, by rw [HXL.out]; exact HL.out.2.2.2.2.2.2.2.2⟩
      have hsx := srx.below bb
      clear hx hxm ewx srx
      go_wp2_with fail
      refine (mdots_any _ _ (turnq q) x n m _ SCr hsx HDX.out.1 HDX.out.2).mono ?_
      rintro e w4 ⟨R, rfl, sR, b4⟩
      obtain ⟨AR, cR, rfl, _, _⟩ := sR.shape
      have TS4 := TS.below b4
      obtain ⟨u0, c4⟩ := TS4.cellAt (i := k) (by rw [partq_len HTT.out hk]; exact hlt)
      have f4 := TS4.frozenAt k
      have TS5 := TS4.stored k sR
      rw [partq_set HTT.out HAT.out] at TS5
      have hb5 := (hb2.trans (b4.mono hb2.size)).setCell (p := ⟨g, k, none⟩) hg (.slice AR (dotsq (turnq q) x).length cR)
      have hsk : p.length - (k + 1) < p.length - k := by omega
      clear TS TS4 sR ecx SCr hsx
      go_wp2
      go_roundw
      case rel => exact ⟨k + 1, _, by omega, TS5, hb5, by go_num⟩
      case measure => simp [intOf]; omega
    · obtain rfl : k = p.length := by omega
      rw [partq_full HTT.out] at TS
      have hS := TS.slT HTT.out (by omega)
      clear TS
      go_wp2
      go_ret
      exact ⟨_, rfl, hS, bb⟩
set_option maxHeartbeats 3200000 in
set_option maxRecDepth 100000 in
theorem mident_ok (n : Int) (d : Nat) (w : World) (hn : n = (d : Int)) (hd : d ≤ 200) : Calls Tryz.prog 9 #[.int .i64 n] w (RetTE (identq d) 0 w) := by
  subst hn
  have h1 : ¬ (d : Int) < 0 := by omega
  have h2 : ¬ (200 : Int) < (d : Int) := by omega
  have HTT : Hid ((identq d).length = d) := identq_len d
  go_enter Tryz.func9, Tryz.ntmps9
  go_wp2_with fail
  refine (mbare_any _ d _ rfl (by omega)).mono ?_
  rintro e w3 ⟨g, rfl, TB, hg, b3⟩
  have TS0 : TabS .u64 4294967296 w3 g 39 (List.replicate d (.slice none 0 0)) (partq (identq d) 0 d) := by rw [partq_zero]; exact TB.bare
  clear TB
  go_wp2
  go_loopw [16] (fun v16 wr => ∃ (k : Nat) (us : List Value), k ≤ d ∧ TabS .u64 4294967296 wr g 39 us (partq (identq d) k d) ∧ Below w.heap.size w wr ∧ v16 = .int .i64 (k : Int)) (fun v16 _ => d - (intOf v16).toNat)
  case atStart => exact ⟨0, _, by omega, TS0, b3, rfl⟩
  case round =>
    obtain ⟨k, us, hk, TS, bb, rfl⟩ := hrel
    clear TS0 b3
    by_cases hlt : k < d
    · have HAT : Hid ((identq d)[k]? = some (unitq d k)) := identq_at hlt
      go_wp2_with fail
      refine (funit_ok _ _ d k _ rfl rfl hd hlt).mono ?_
      rintro e w4 ⟨R, rfl, sR, b4⟩
      rw [if_pos rfl] at sR
      obtain ⟨AR, cR, rfl, _, _⟩ := sR.shape
      have TS4 := TS.below b4
      obtain ⟨u0, c4⟩ := TS4.cellAt (i := k) (by rw [partq_len HTT.out hk]; exact hlt)
      have f4 := TS4.frozenAt k
      have TS5 := TS4.stored k sR
      rw [partq_set HTT.out HAT.out] at TS5
      have hb5 := (bb.trans (b4.mono bb.size)).setCell (p := ⟨g, k, none⟩) hg (.slice AR (unitq d k).length cR)
      have hsk : d - (k + 1) < d - k := by omega
      clear TS TS4 sR
      go_wp2
      go_roundw
      case rel => exact ⟨k + 1, _, by omega, TS5, hb5, by go_num⟩
      case measure => simp [intOf]; omega
    · obtain rfl : k = d := by omega
      rw [partq_full HTT.out] at TS
      have hS := TS.slT HTT.out (by omega)
      clear TS
      go_wp2
      go_ret2
      exact ⟨_, rfl, by rw [if_pos rfl]; exact hS, bb⟩
set_option maxHeartbeats 3200000 in
set_option maxRecDepth 100000 in
theorem mapply_any (a0 a1 : Value) (t : List (List Rat)) (v : List Rat) (m n : Nat) (w : World) (h0 : SlT .u64 4294967296 w a0 t) (h1 : SlF .u64 4294967296 w a1 v) (hl : lenT t m ∧ (∀ y ∈ v, lenQ y n) ∧ (m + n + 1) * v.length + 1 ≤ 900) :
    Calls Tryz.prog 22 #[a0, a1] w (fun e w' => ((mayq t ∧ wideq t = v.length) ∧ RetQLE (dotsq t v) 0 w e w') ∨ (¬ (mayq t ∧ wideq t = v.length) ∧ RetQLE [] 8 w e w')) := by
  have st0 := h0
  obtain ⟨A0, c0, rfl, hc0, hm0⟩ := h0.shape
  obtain ⟨A1, c1, rfl, hc1, hm1⟩ := h1.shape
  have HL := Lib.hid hl
  clear hl
  go_enter Tryz.func22, Tryz.ntmps22
  go_wp2_with fail
  refine (msize_any _ t _ st0).mono ?_
  rintro e w2 ⟨rfl, b2⟩
  have st2 := st0.below b2
  by_cases h : mayq t
  · have HM := Lib.hid h
    go_wp2_with fail
    refine (mmay_any _ t true _ st2 (decide_eq_true HM.out).symm).mono ?_
    rintro e w3 ⟨rfl, b3⟩
    have b23 := b2.trans (b3.mono b2.size)
    clear h st2 b3
    by_cases hw : wideq t = v.length
    · have hne : ¬ ((v.length : Nat) : Int) ≠ ((wideq t : Nat) : Int) := by rw [hw]; exact fun h => h rfl
      have hneb : (((v.length : Nat) : Int) != ((wideq t : Nat) : Int)) = false := by rw [bne_eq_false_iff_eq, hw]
      have HW := Lib.hid hw
      have st3 := st0.below b23
      have sv3 := h1.below b23
      clear hw
      go_wp2_with fail
      refine (mdots_any _ _ t v m n _ st3 sv3 (fun r hr => by rw [HM.out.2.2 r hr, HW.out]) ⟨Nat.le_trans HM.out.1 (by decide), by have := HM.out.2.1; rw [HW.out] at this; omega, HL.out.1, HL.out.2.1, HL.out.2.2⟩).mono ?_
      rintro e w4 ⟨V, rfl, sV, b4⟩
      go_wp2
      go_ret2
      exact .inl ⟨⟨HM.out, HW.out⟩, _, rfl, by rw [if_pos rfl]; exact sV, b23.trans (b4.mono b23.size)⟩
    · have hne : ((v.length : Nat) : Int) ≠ ((wideq t : Nat) : Int) := by omega
      have hneb : (((v.length : Nat) : Int) != ((wideq t : Nat) : Int)) = true := by rw [bne_iff_ne]; exact hne
      have HW := Lib.hid hw
      clear hw
      go_wp2
      go_ret2
      exact .inr ⟨fun h => HW.out h.2, _, rfl, by rw [if_neg (by decide)]; exact slF_nil _ _ _, b23⟩
  · have HM := Lib.hid h
    go_wp2_with fail
    refine (mmay_any _ t false _ st2 (decide_eq_false HM.out).symm).mono ?_
    rintro e w3 ⟨rfl, b3⟩
    have b23 := b2.trans (b3.mono b2.size)
    clear h
    go_wp2
    go_ret2
    exact .inr ⟨fun h => HM.out h.1, _, rfl, by rw [if_neg (by decide)]; exact slF_nil _ _ _, b23⟩
/-- May two tables be added. -/
def addsq (p q : List (List Rat)) : Prop := mayq p ∧ mayq q ∧ p.length = q.length ∧ wideq p = wideq q
set_option maxHeartbeats 3200000 in
set_option maxRecDepth 100000 in
theorem madd_any (a0 a1 : Value) (p q : List (List Rat)) (M : Nat) (w : World) (h0 : SlT .u64 4294967296 w a0 p) (h1 : SlT .u64 4294967296 w a1 q) (hl : lenT p M ∧ lenT q M ∧ M ≤ 900) :
    Calls Tryz.prog 21 #[a0, a1] w (fun e w' => (addsq p q ∧ RetTE (addT p q) 0 w e w') ∨ (¬ addsq p q ∧ RetTE [] 8 w e w')) := by
  have st0 := h0
  obtain ⟨A0, c0, rfl, hc0, hm0⟩ := h0.shape
  unfold maxLen at hm0
  have st1 := h1
  obtain ⟨A1, c1, rfl, hc1, hm1⟩ := h1.shape
  unfold maxLen at hm1
  have HL := Lib.hid hl
  clear hl
  go_enter Tryz.func21, Tryz.ntmps21
  by_cases hp : mayq p
  · have HP := Lib.hid hp
    clear hp
    go_wp2_with fail
    refine (mmay_any _ p true _ st0 (decide_eq_true HP.out).symm).mono ?_
    rintro e w2 ⟨rfl, b2⟩
    have st2 := st1.below b2
    by_cases hq : mayq q
    · have HQ := Lib.hid hq
      clear hq
      go_wp2_with fail
      refine (mmay_any _ q true _ st2 (decide_eq_true HQ.out).symm).mono ?_
      rintro e w3 ⟨rfl, b3⟩
      have b23 := b2.trans (b3.mono b2.size)
      have st3 := st0.below b23
      have st4 := st1.below b23
      by_cases hs : p.length = q.length ∧ wideq p = wideq q
      · have HS := Lib.hid hs
        clear hs
        go_wp2_with fail
        refine (malike_any _ _ p q true _ st3 st4 (decide_eq_true HS.out).symm).mono ?_
        rintro e w4 ⟨rfl, b4⟩
        have b24 := b23.trans (b4.mono b23.size)
        have HTT : Hid ((addT p q).length = p.length) := addT_len HS.out.1
        have hpl : p.length ≤ 200 := HP.out.1
        clear st2 st3 st4 b2 b3 b23 b4
        go_wp2_with fail
        refine (mbare_any _ p.length _ rfl (by omega)).mono ?_
        rintro e w5 ⟨g, rfl, TB, hg, b5⟩
        have TS0 : TabS .u64 4294967296 w5 g 39 (List.replicate p.length (.slice none 0 0)) (partq (addT p q) 0 p.length) := by rw [partq_zero]; exact TB.bare
        have b25 := b24.trans (b5.mono b24.size)
        have hgw : w.heap.size ≤ g := Nat.le_trans b24.size hg
        clear TB b5 b24 hg
        go_wp2
        go_loopw [28] (fun v28 wr => ∃ (k : Nat) (us : List Value), k ≤ p.length ∧ TabS .u64 4294967296 wr g 39 us (partq (addT p q) k p.length) ∧ Below w.heap.size w wr ∧ v28 = .int .i64 (k : Int)) (fun v28 _ => p.length - (intOf v28).toNat)
        case atStart => exact ⟨0, _, by omega, TS0, b25, rfl⟩
        case round =>
          obtain ⟨k, us, hk, TS, bb, rfl⟩ := hrel
          clear TS0 b25
          by_cases hlt : k < p.length
          · have hlt2 : k < q.length := by have := HS.out.1; omega
            have hnp : p ≠ [] := List.length_pos_iff.1 (by omega)
            have hnq : q ≠ [] := List.length_pos_iff.1 (by omega)
            obtain ⟨x, hx⟩ : ∃ x, p[k]? = some x := ⟨_, List.getElem?_eq_getElem hlt⟩
            obtain ⟨y, hy⟩ : ∃ y, q[k]? = some y := ⟨_, List.getElem?_eq_getElem hlt2⟩
            obtain ⟨ad, rfl⟩ := st0.place hnp
            obtain ⟨ad1, rfl⟩ := st1.place hnq
            obtain ⟨Ax, cx, hix, ecx, srx⟩ := (st0.below bb).at2 hx
            obtain ⟨Ay, cy, hiy, ecy, sry⟩ := (st1.below bb).at2 hy
            have HXY : Hid (x.length = y.length) := by
              show _ = _
              rw [HP.out.2.2 x (List.mem_of_getElem? hx), HQ.out.2.2 y (List.mem_of_getElem? hy), HS.out.2]
            have HB : Hid (x.length ≤ 200 ∧ (∀ z ∈ x, lenQ z M) ∧ (∀ z ∈ y, lenQ z M) ∧ M ≤ 900) := ⟨by rw [HP.out.2.2 x (List.mem_of_getElem? hx)]; exact HP.out.2.1, HL.out.1 x (List.mem_of_getElem? hx), HL.out.2.1 y (List.mem_of_getElem? hy), HL.out.2.2⟩
            have HAT : Hid ((addT p q)[k]? = some (addq x y)) := addT_at hx hy
            have HV := isV_lit wr 39 [.slice Ax x.length cx, .slice Ay y.length cy]
            have ba := below_alloc (w := wr) (Nat.le_refl _) (.cells #[.slice Ax x.length cx, .slice Ay y.length cy] 39)
            have HTW : Hid (Two (wr.alloc (.cells #[.slice Ax x.length cx, .slice Ay y.length cy] 39)) (.slice (some ⟨wr.heap.size, 0, none⟩) 2 2) x y) := ⟨_, _, HV, srx.below ba, sry.below ba⟩
            have TSa := TS.below ba
            have bba := bb.trans (ba.mono bb.size)
            clear hx hy srx sry HV ba
            go_wp2_with fail
            refine (fvadd_gen _ x y M _ HTW.out HB.out).mono ?_
            rintro e w6 h6
            obtain ⟨R, rfl, sR, b6⟩ : RetQLE (addq x y) 0 _ e w6 := by
              rcases h6 with ⟨_, h6⟩ | ⟨h6, _⟩
              · exact h6
              · exact absurd HXY.out h6
            rw [if_pos rfl] at sR
            obtain ⟨AR, cR, rfl, _, _⟩ := sR.shape
            have TS4 := TSa.below b6
            obtain ⟨u0, c4⟩ := TS4.cellAt (i := k) (by rw [partq_len HTT.out hk]; exact hlt)
            have f4 := TS4.frozenAt k
            have TS5 := TS4.stored k sR
            rw [partq_set HTT.out HAT.out] at TS5
            have hb5 := (bba.trans (b6.mono bba.size)).setCell (p := ⟨g, k, none⟩) hgw (.slice AR (addq x y).length cR)
            have hsk : p.length - (k + 1) < p.length - k := by omega
            clear TS TS4 sR ecx ecy TSa HTW
            go_wp2
            go_roundw
            case rel => exact ⟨k + 1, _, by omega, TS5, hb5, by go_num⟩
            case measure => simp [intOf]; omega
          · obtain rfl : k = p.length := by omega
            rw [partq_full HTT.out] at TS
            have hS := TS.slT HTT.out (by omega)
            clear TS
            go_wp2
            go_ret2
            exact .inl ⟨⟨HP.out, HQ.out, HS.out⟩, _, rfl, by rw [if_pos rfl]; exact hS, bb⟩
      · have HS := Lib.hid hs
        clear hs
        go_wp2_with fail
        refine (malike_any _ _ p q false _ st3 st4 (decide_eq_false HS.out).symm).mono ?_
        rintro e w4 ⟨rfl, b4⟩
        have b24 := b23.trans (b4.mono b23.size)
        go_wp2
        go_ret2
        exact .inr ⟨fun h => HS.out h.2.2, retTE_no 8 (by decide) b24⟩
    · have HQ := Lib.hid hq
      clear hq
      go_wp2_with fail
      refine (mmay_any _ q false _ st2 (decide_eq_false HQ.out).symm).mono ?_
      rintro e w3 ⟨rfl, b3⟩
      have b23 := b2.trans (b3.mono b2.size)
      go_wp2
      go_ret2
      exact .inr ⟨fun h => HQ.out h.2.1, retTE_no 8 (by decide) b23⟩
  · have HP := Lib.hid hp
    clear hp
    go_wp2_with fail
    refine (mmay_any _ p false _ st0 (decide_eq_false HP.out).symm).mono ?_
    rintro e w2 ⟨rfl, b2⟩
    go_wp2
    go_ret2
    exact .inr ⟨fun h => HP.out h.1, retTE_no 8 (by decide) b2⟩
theorem ListT.tail {w : World} {ad : Addr} {n c : Nat} {ts : List (List (List Rat))} (h : ListT w (.slice (some ad) n c) ts) (hne : ts ≠ []) : ListT w (.slice (if c = 1 then some ad else some (ad.add 1)) (n - 1) (c - 1)) ts.tail := by
  obtain ⟨us, h1, ⟨A, c', e, hc, hcell⟩, h3, h4⟩ := h
  injection e with e1 e2 e3
  subst e1; subst e2; subst e3
  have hpos : 0 < ts.length := List.length_pos_iff.2 hne
  refine ⟨us.tail, by rw [List.length_tail, List.length_tail, h1], ?_, by rw [List.length_tail]; omega, fun i u t hu ht => ?_⟩
  · by_cases h2 : c = 1
    · have : us.tail = [] := List.length_eq_zero_iff.1 (by rw [List.length_tail]; omega)
      rw [this]
      exact ⟨_, _, by rw [show us.length - 1 = 0 by omega]; rfl, by simp, fun i u hu => by simp at hu⟩
    · rw [if_neg h2]
      refine ⟨some (ad.add 1), c - 1, by rw [List.length_tail], by rw [List.length_tail]; omega, fun i u hu => ?_⟩
      rw [List.getElem?_tail] at hu
      obtain ⟨ad', ha, hc2⟩ := hcell (i + 1) u hu
      injection ha with ha; subst ha
      refine ⟨_, rfl, ?_⟩
      have e : (ad.add 1).add i = ad.add (i + 1) := by
        unfold Addr.add
        by_cases hi : i = 0
        · simp [hi]
        · simp [hi]; omega
      rw [e]; exact hc2
  · rw [List.getElem?_tail] at hu ht
    exact h4 (i + 1) u t hu ht
/-- Does the table at this place fit: it may be, and it has as many rows as the one ahead has places. -/
def okAt (ts : List (List (List Rat))) (i : Nat) (t : List (List Rat)) : Prop := mayq t ∧ ∀ (s : List (List Rat)), 0 < i → ts[i - 1]? = some s → wideq s = t.length
/-- How long the numbers of a product of so many are. -/
def bnd : Nat → Nat
  | 0 => 10
  | n + 1 => (bnd n + bnd n + 1) * 4 + 1
theorem bnd_one (n : Nat) : 10 ≤ bnd n := by
  induction n with
  | zero => exact Nat.le_refl _
  | succ n ih => show 10 ≤ (bnd n + bnd n + 1) * 4 + 1; omega
theorem foldl_take_snoc {α β : Type} (f : α → β → α) (a : α) {l : List β} {j : Nat} {x : β} (h : l[j]? = some x) : (l.take (j + 1)).foldl f a = f ((l.take j).foldl f a) x := by
  rw [List.take_add_one, h]
  simp [List.foldl_append]
set_option maxHeartbeats 6400000 in
set_option maxRecDepth 100000 in
theorem mmul_any (a0 : Value) (ts : List (List (List Rat))) (w : World) (h0 : ListT w a0 ts) (hl : ts.length ≤ 3 ∧ ∀ t ∈ ts, t.length ≤ 4 ∧ (∀ r ∈ t, r.length ≤ 4) ∧ lenT t 10) :
    Calls Tryz.prog 20 #[a0] w (fun e w' => (fitsq ts ∧ RetTE (prodT ts) 0 w e w') ∨ (¬ fitsq ts ∧ RetTE [] 8 w e w')) := by
  have st0 := h0
  obtain ⟨A0, c0, rfl, hc0⟩ := h0.shape
  have HL := Lib.hid hl
  have hl3 : ts.length ≤ 3 := hl.1
  clear hl
  go_enter Tryz.func20, Tryz.ntmps20
  by_cases hn : ts = []
  · subst hn
    go_wp2
    go_ret2
    exact .inr ⟨fun h => h.1 rfl, retTE_no 8 (by decide) (Below.refl _ _)⟩
  have hpos : 0 < ts.length := List.length_pos_iff.2 hn
  have hne0 : ¬ ((ts.length : Nat) : Int) = 0 := by omega
  have hneb : (((ts.length : Nat) : Int) == 0) = false := by rw [beq_eq_false_iff_ne]; omega
  obtain ⟨ad, rfl⟩ := st0.place hn
  go_wp2
  go_loopw [14] (fun v14 wr => ∃ k : Nat, k ≤ ts.length ∧ Hid (∀ (i : Nat) (t : List (List Rat)), i < k → ts[i]? = some t → okAt ts i t) ∧ Below w.heap.size w wr ∧ v14 = .int .i64 (k : Int)) (fun v14 _ => ts.length - (intOf v14).toNat)
  case atStart => exact ⟨0, by omega, (by show ∀ i, _; intro i t hi; omega), Below.refl _ _, rfl⟩
  case round =>
    obtain ⟨k, hk, HA, bb, rfl⟩ := hrel
    by_cases hlt : k < ts.length
    · obtain ⟨t, ht⟩ : ∃ t, ts[k]? = some t := ⟨_, List.getElem?_eq_getElem hlt⟩
      have HT := Lib.hid ht
      obtain ⟨At, ct, hit, ect, stt⟩ := (st0.below bb).at2 ht
      clear ht
      by_cases hm : mayq t
      · have HM := Lib.hid hm
        clear hm
        go_wp2_with fail
        refine (mmay_any _ t true _ stt (decide_eq_true HM.out).symm).mono ?_
        rintro e w2 ⟨rfl, b2⟩
        have bb2 := bb.trans (b2.mono bb.size)
        have stt2 := stt.below b2
        clear ect stt b2
        by_cases hk0 : 0 < k
        · obtain ⟨j, rfl⟩ : ∃ j, k = j + 1 := ⟨k - 1, by omega⟩
          obtain ⟨s, hs⟩ : ∃ s, ts[j]? = some s := ⟨_, List.getElem?_eq_getElem (by omega)⟩
          have HS := Lib.hid hs
          obtain ⟨As, cs, his, ecs, sts⟩ := (st0.below bb2).at2 hs
          have hgt : (0 : Int) < ((j + 1 : Nat) : Int) := by omega
          clear hs
          go_wp2_with fail
          by_cases hf : wideq s = t.length
          · have HF := Lib.hid hf
            clear hf
            refine (mfit_any _ _ s t true _ sts stt2 (decide_eq_true HF.out).symm).mono ?_
            rintro e w3 ⟨rfl, b3⟩
            have bb3 := bb2.trans (b3.mono bb2.size)
            have HA2 : Hid (∀ (i : Nat) (t : List (List Rat)), i < j + 1 + 1 → ts[i]? = some t → okAt ts i t) := by
              show ∀ i, _
              intro i t' hi h'
              by_cases e : i = j + 1
              · subst e
                rw [HT.out] at h'
                injection h' with h'
                subst h'
                refine ⟨HM.out, fun s' _ hs' => ?_⟩
                rw [Nat.add_sub_cancel, HS.out] at hs'
                injection hs' with hs'
                subst hs'
                exact HF.out
              · exact HA.out i t' (by omega) h'
            have hsk : ts.length - (j + 1 + 1) < ts.length - (j + 1) := by omega
            clear ecs sts stt2 b3 HA
            go_wp2
            go_roundw
            case rel => exact ⟨j + 1 + 1, by omega, HA2, bb3, by go_num⟩
            case measure => simp [intOf]; omega
          · have HF := Lib.hid hf
            clear hf
            refine (mfit_any _ _ s t false _ sts stt2 (decide_eq_false HF.out).symm).mono ?_
            rintro e w3 ⟨rfl, b3⟩
            have bb3 := bb2.trans (b3.mono bb2.size)
            have HN : Hid (¬ fitsq ts) := fun h => HF.out ((h.2 (j + 1) t HT.out).2 s (by omega) (by rw [Nat.add_sub_cancel]; exact HS.out))
            clear ecs sts stt2 b3 HA
            go_wp2
            go_ret2
            exact .inr ⟨HN.out, retTE_no 8 (by decide) bb3⟩
        · have hgt : ¬ (0 : Int) < (k : Int) := by omega
          have HA2 : Hid (∀ (i : Nat) (t : List (List Rat)), i < k + 1 → ts[i]? = some t → okAt ts i t) := by
            show ∀ i, _
            intro i t' hi h'
            obtain rfl : i = k := by omega
            rw [HT.out] at h'
            injection h' with h'
            subst h'
            exact ⟨HM.out, fun s' h0' _ => absurd h0' hk0⟩
          have hsk : ts.length - (k + 1) < ts.length - k := by omega
          clear HA stt2
          go_wp2
          go_roundw
          case rel => exact ⟨k + 1, by omega, HA2, bb2, by go_num⟩
          case measure => simp [intOf]; omega
      · have HM := Lib.hid hm
        clear hm
        go_wp2_with fail
        refine (mmay_any _ t false _ stt (decide_eq_false HM.out).symm).mono ?_
        rintro e w2 ⟨rfl, b2⟩
        have bb2 := bb.trans (b2.mono bb.size)
        have HN : Hid (¬ fitsq ts) := fun h => HM.out (h.2 k t HT.out).1
        go_wp2
        go_ret2
        exact .inr ⟨HN.out, retTE_no 8 (by decide) bb2⟩
    · obtain rfl : k = ts.length := by omega
      have HF : Hid (fitsq ts) := ⟨hn, fun i t ht => HA.out i t (List.getElem?_eq_some_iff.1 ht).1 ht⟩
      obtain ⟨t0, ht0⟩ : ∃ t0, ts[0]? = some t0 := ⟨_, List.getElem?_eq_getElem hpos⟩
      have HT0 := Lib.hid ht0
      have bd := bb.drew
      obtain ⟨At, ct, hit, ecd, std⟩ := (st0.below bd).at2 ht0
      have HB0 : Hid (t0.length ≤ 4 ∧ (∀ r ∈ t0, r.length ≤ 4) ∧ lenT t0 10) := HL.out.2 t0 (List.mem_of_getElem? ht0)
      have ht04 : t0.length ≤ 4 := HB0.out.1
      have ead : ad.add 0 = ad := by simp [Addr.add]
      rw [ead] at ecd
      have ecz : wr.cell? ad = some (.slice At t0.length ct) := ecd
      clear ht0 HA
      go_upto_region 9 with (fail)
      go_region_law (first
        | (go_simp; go_at_call 32; refine (mbare_any _ t0.length _ rfl (by omega)).mono ?_; rintro e w4 ⟨g, rfl, TB, hg, b4⟩; have TO : TabR w4 wr.drew.heap.size _ _ _ := TB.owned hg (by omega); have ec4 := (b4.cell (World.block_lt_of_cell? _ _ ecd)).trans ecd)
        | (go_simp; go_at_call 43; refine (mjoined_any g t0.length t0.length _ _ _ t0 wr.drew w4 TO std b4 (by simp) rfl hg ⟨fun r hr => by rw [valq_nil] at hr; rw [(List.mem_replicate.1 hr).2]; exact Nat.zero_le _, fun r hr => Nat.le_trans (HB0.out.2.1 r hr) (by decide), HB0.out.2.2.mono (by decide)⟩).mono ?_; rintro e w5 ⟨us5, pss5, rfl, T5, V5, L5, b5⟩))
      all_goals
        have SA : SlT .u64 4294967296 w5 (.slice (some ⟨g, 0, none⟩) t0.length t0.length) t0 := by
          have h := T5.slT
          rw [V5, valq_nil, joinq_nil] at h
          exact h
        have bb5 : Below w.heap.size w w5 := bd.trans ((b4.trans b5).mono bd.size)
        obtain ⟨A', hA', stT⟩ : ∃ A' : Addr, (if c0 = 1 then some ad else some ({ block := ad.block, off := ad.off + 1 } : Addr)) = some A' ∧ ListT w (.slice (some A') (ts.length - 1) (c0 - 1)) ts.tail := by
          have h := st0.tail hn
          by_cases hc1 : c0 = 1
          · rw [if_pos hc1] at h
            exact ⟨ad, by rw [if_pos hc1], h⟩
          · rw [if_neg hc1] at h
            exact ⟨_, by rw [if_neg hc1]; simp [Addr.add], h⟩
        have h1n : (1 : Int) ≤ ((ts.length : Nat) : Int) := by omega
        have HTL : Hid (ts.tail.length = ts.length - 1) := List.length_tail
        clear T5 V5 L5 TB TO b4 b5 std ecz ecd bb bd
        go_wp2
        go_loopw [6, 49] (fun v6 v49 wr => ∃ (j : Nat) (ans : List (List Rat)), j ≤ ts.length - 1 ∧ SlT .u64 4294967296 wr v6 ans ∧ Hid (ans = (ts.tail.take j).foldl mulq t0) ∧ Hid ((∀ s, ts[j]? = some s → ∀ r ∈ ans, r.length = wideq s) ∧ ans.length ≤ 4 ∧ lenT ans (bnd j)) ∧ Below w.heap.size w wr ∧ v49 = .int .i64 (j : Int)) (fun _ v49 _ => (ts.length - 1) - (intOf v49).toNat)
        case atStart => exact ⟨0, t0, by omega, SA, by show _ = _; rw [List.take_zero]; rfl, ⟨fun s hs r hr => by rw [HT0.out] at hs; injection hs with hs; subst hs; exact ((HF.out.2 0 t0 HT0.out).1.2.2 r hr), HB0.out.1, HB0.out.2.2⟩, bb5, rfl⟩
        case round =>
          clear SA bb5
          obtain ⟨j, ans, hj, SA, HAN, HAB, bb, rfl⟩ := hrel
          obtain ⟨AA, cA, eA, _, _⟩ := SA.shape
          subst eA
          by_cases hlt2 : j < ts.length - 1
          · obtain ⟨t, ht⟩ : ∃ t, ts.tail[j]? = some t := ⟨_, List.getElem?_eq_getElem (by rw [HTL.out]; exact hlt2)⟩
            have HT := Lib.hid ht
            obtain ⟨At1, ct1, hit1, ect, stt⟩ := (stT.below bb).at2 ht
            have ht1 : ts[j + 1]? = some t := by rw [List.getElem?_tail] at ht; exact ht
            obtain ⟨s, hs⟩ : ∃ s, ts[j]? = some s := ⟨_, List.getElem?_eq_getElem (by omega)⟩
            have hok := HF.out.2 (j + 1) t ht1
            have htm := List.mem_of_getElem? ht1
            have hws : wideq s = t.length := hok.2 s (by omega) (by rw [Nat.add_sub_cancel]; exact hs)
            have hj1 : bnd j ≤ 85 := by
              rcases (by omega : j = 0 ∨ j = 1) with rfl | rfl
              · decide
              · decide
            have htl : t.length ≤ 4 := (HL.out.2 t htm).1
            have hrows : ∀ r ∈ ans, r.length = t.length := fun r hr => by rw [HAB.out.1 s hs r hr, hws]
            have hmul : (10 + bnd j + 1) * t.length + 1 ≤ 900 := by
              have := Nat.mul_le_mul (show 10 + bnd j + 1 ≤ 96 by omega) htl
              omega
            have HPR : Hid ((∀ r ∈ ans, r.length = t.length) ∧ ans.length ≤ 1000 ∧ t.length ≤ 1000 ∧ wideq t ≤ 1000 ∧ evenq t ∧ lenT ans (bnd j) ∧ lenT t 10 ∧ 1 ≤ 10 ∧ 10 ≤ 900 ∧ (10 + bnd j + 1) * t.length + 1 ≤ 900) := ⟨hrows, by have := HAB.out.2.1; omega, by omega, Nat.le_trans hok.1.2.1 (by decide), hok.1.2.2, HAB.out.2.2, (HL.out.2 t htm).2.2, by decide, by decide, hmul⟩
            have HAN2 : Hid (mulq ans t = (ts.tail.take (j + 1)).foldl mulq t0) := by show _ = _; rw [foldl_take_snoc mulq t0 HT.out, HAN.out]
            have HAB2 : Hid ((∀ s, ts[j + 1]? = some s → ∀ r ∈ mulq ans t, r.length = wideq s) ∧ (mulq ans t).length ≤ 4 ∧ lenT (mulq ans t) (bnd (j + 1))) := by
              refine ⟨fun s' hs' r hr => ?_, by rw [mulq_len]; exact HAB.out.2.1, ?_⟩
              · rw [ht1] at hs'
                injection hs' with hs'
                subst hs'
                exact mulq_rows r hr
              · exact lenT_mul HAB.out.2.2 ((HL.out.2 t htm).2.2.mono (bnd_one j)) (Nat.le_trans (by decide) (bnd_one j)) hrows htl
            clear ht ht1 hs hok htm hws hrows hmul
            go_wp2_with fail
            refine (mproduct_any _ _ ans t (bnd j) 10 _ SA stt HPR.out.1 HPR.out.2).mono ?_
            rintro e w7 ⟨V7, rfl, S7, b7⟩
            have bb7 := bb.trans (b7.mono bb.size)
            have hsk : ts.length - 1 - (j + 1) < ts.length - 1 - j := by omega
            obtain ⟨A7, c7, e7, _, _⟩ := S7.shape
            subst e7
            clear SA stt ect HAN HAB
            go_wp2
            go_roundw
            case rel => exact ⟨j + 1, mulq ans t, by omega, S7, HAN2, HAB2, bb7, by go_num⟩
            case measure => simp [intOf]; omega
          · obtain rfl : j = ts.length - 1 := by omega
            have HE : Hid (ans = prodT ts) := by
              show _ = _
              rw [HAN.out, List.take_of_length_le (by rw [HTL.out]; exact Nat.le_refl _), prodT]
              congr 1
              cases ts with
              | nil => exact absurd rfl hn
              | cons a l => have h := HT0.out; simpa using h.symm
            have hS : SlT .u64 4294967296 wr (.slice AA ans.length cA) (prodT ts) := by rw [← HE.out]; exact SA
            clear SA HAN HAB
            go_wp2
            go_ret2
            exact .inl ⟨HF.out, _, rfl, by rw [if_pos rfl]; exact hS, bb⟩
theorem sum_take_le : ∀ (l : List Nat) (j : Nat), (l.take j).sum ≤ l.sum
  | [], j => by simp
  | x :: l, 0 => by simp
  | x :: l, j + 1 => by have := sum_take_le l j; simp; omega
theorem slT_two {k : IntKind} {B : Nat} {w : World} {v u0 u1 : Value} {r0 r1 : List Rat} (h : IsV w v [u0, u1]) (h0 : SlF k B w u0 r0) (h1 : SlF k B w u1 r1) (hc : ∀ A n c, v = .slice A n c → c ≤ maxLen) : SlT k B w v [r0, r1] := by
  obtain ⟨A, c, e, h2, h3⟩ := h
  refine ⟨[u0, u1], rfl, ⟨A, c, e, h2, hc _ _ _ e, h3⟩, fun i x y hx hy => ?_⟩
  rcases i with _ | _ | i
  · obtain rfl : u0 = x := by simpa using hx
    obtain rfl : r0 = y := by simpa using hy
    exact h0
  · obtain rfl : u1 = x := by simpa using hx
    obtain rfl : r1 = y := by simpa using hy
    exact h1
  · simp at hx
/-- Two rows of two, written out. -/
theorem tab22 (w : World) {a b c d : Rat} {ua ta ub tb uc tc ud td : Value} (ha : IsS w .u64 ua (digs 4294967296 a.num.natAbs)) (ha2 : IsS w .u64 ta (digs 4294967296 a.den)) (hb : IsS w .u64 ub (digs 4294967296 b.num.natAbs)) (hb2 : IsS w .u64 tb (digs 4294967296 b.den)) (hc : IsS w .u64 uc (digs 4294967296 c.num.natAbs)) (hc2 : IsS w .u64 tc (digs 4294967296 c.den)) (hd : IsS w .u64 ud (digs 4294967296 d.num.natAbs)) (hd2 : IsS w .u64 td (digs 4294967296 d.den)) :
    SlT .u64 4294967296 (((w.alloc (.cells #[.bool (ngB a.num), ua, ta, .bool (ngB b.num), ub, tb] 46)).alloc (.cells #[.bool (ngB c.num), uc, tc, .bool (ngB d.num), ud, td] 46)).alloc (.cells #[.slice (some ⟨w.heap.size, 0, none⟩) 2 2, .slice (some ⟨w.heap.size + 1, 0, none⟩) 2 2] 39)) (.slice (some ⟨w.heap.size + 1 + 1, 0, none⟩) 2 2) [[a, b], [c, d]] ∧ Below w.heap.size w (((w.alloc (.cells #[.bool (ngB a.num), ua, ta, .bool (ngB b.num), ub, tb] 46)).alloc (.cells #[.bool (ngB c.num), uc, tc, .bool (ngB d.num), ud, td] 46)).alloc (.cells #[.slice (some ⟨w.heap.size, 0, none⟩) 2 2, .slice (some ⟨w.heap.size + 1, 0, none⟩) 2 2] 39)) := by
  have s1 := slF_lit2 w 46 ha ha2 hb hb2
  have b1 := below_alloc (w := w) (Nat.le_refl _) (.cells #[.bool (ngB a.num), ua, ta, .bool (ngB b.num), ub, tb] 46)
  have hs1 : (w.alloc (.cells #[.bool (ngB a.num), ua, ta, .bool (ngB b.num), ub, tb] 46)).heap.size = w.heap.size + 1 := by simp
  obtain ⟨w1, hw1⟩ : ∃ w1, w1 = w.alloc (.cells #[.bool (ngB a.num), ua, ta, .bool (ngB b.num), ub, tb] 46) := ⟨_, rfl⟩
  rw [← hw1] at s1 b1 hs1 ⊢
  have s2 := slF_lit2 w1 46 (hc.below b1) (hc2.below b1) (hd.below b1) (hd2.below b1)
  have b2 := below_alloc (w := w1) (Nat.le_refl _) (.cells #[.bool (ngB c.num), uc, tc, .bool (ngB d.num), ud, td] 46)
  have hs2 : (w1.alloc (.cells #[.bool (ngB c.num), uc, tc, .bool (ngB d.num), ud, td] 46)).heap.size = w.heap.size + 1 + 1 := by simpa using hs1
  obtain ⟨w2, hw2⟩ : ∃ w2, w2 = w1.alloc (.cells #[.bool (ngB c.num), uc, tc, .bool (ngB d.num), ud, td] 46) := ⟨_, rfl⟩
  rw [← hw2] at s2 b2 hs2 ⊢
  rw [hs1] at s2
  have b3 := below_alloc (w := w2) (Nat.le_refl _) (.cells #[.slice (some ⟨w.heap.size, 0, none⟩) 2 2, .slice (some ⟨w.heap.size + 1, 0, none⟩) 2 2] 39)
  have hv := isV_lit w2 39 [.slice (some ⟨w.heap.size, 0, none⟩) 2 2, .slice (some ⟨w.heap.size + 1, 0, none⟩) 2 2]
  rw [hs2] at hv
  refine ⟨slT_two hv ((s1.below b2).below b3) (s2.below b3) (fun A n c e => by injection e with _ _ e3; subst e3; unfold maxLen; simp), ?_⟩
  exact b1.trans ((b2.mono b1.size).trans (b3.mono (Nat.le_trans b1.size b2.size)))
set_option maxHeartbeats 6400000 in
set_option maxRecDepth 100000 in
theorem works12_any (w : World) : Calls Tryz.prog 15 #[] w (RetV (.bool true) w) := by
  obtain ⟨Z, hZ⟩ : ∃ Z : Rat, Z = ((0 : Int) : Rat) := ⟨_, rfl⟩
  obtain ⟨O, hO⟩ : ∃ O : Rat, O = ((1 : Int) : Rat) := ⟨_, rfl⟩
  have HZ := Lib.hid hZ
  have HO := Lib.hid hO
  have CZ : Calls Tryz.prog 37 #[.int .i64 0] w (RetQ Z w) := by rw [hZ]; exact of8_any 0 _ (by omega) (by omega)
  have CO : ∀ w, Calls Tryz.prog 37 #[.int .i64 1] w (RetQ O w) := fun w => by rw [hO]; exact of8_any 1 _ (by omega) (by omega)
  clear hZ hO
  go_enter Tryz.func15, Tryz.ntmps15
  go_wp2_with fail
  refine CZ.mono ?_
  rintro e w1 ⟨v0, rfl, k0, f0, b1⟩
  obtain ⟨u0, t0, rfl, q0, d0⟩ := k0
  obtain ⟨A0, c0, rfl, _⟩ := id q0
  obtain ⟨D0, e0, rfl, _⟩ := id d0
  go_wp2_with fail
  refine (CO _).mono ?_
  rintro e w2 ⟨v1, rfl, k1, f1, b2⟩
  obtain ⟨u1, t1, rfl, q1, d1⟩ := k1
  obtain ⟨A1, c1, rfl, _⟩ := id q1
  obtain ⟨D1, e1, rfl, _⟩ := id d1
  have q02 := q0.below b2
  have d02 := d0.below b2
  clear CZ CO f0 f1 q0 d0
  go_upto_region 2 with (fail)
  have B0 := (Blk.new w2 46 #[.bool (ngB Z.num), .slice A0 (digs 4294967296 Z.num.natAbs).length c0, .slice D0 (digs 4294967296 Z.den).length e0]).alloc (.cells #[.bool (ngB O.num), .slice A1 (digs 4294967296 O.num.natAbs).length c1, .slice D1 (digs 4294967296 O.den).length e1] 46)
  have hs1 : (w2.alloc (.cells #[.bool (ngB Z.num), .slice A0 (digs 4294967296 Z.num.natAbs).length c0, .slice D0 (digs 4294967296 Z.den).length e0] 46)).heap.size = w2.heap.size + 1 := by simp
  have B1 := Blk.new (w2.alloc (.cells #[.bool (ngB Z.num), .slice A0 (digs 4294967296 Z.num.natAbs).length c0, .slice D0 (digs 4294967296 Z.den).length e0] 46)) 46 #[.bool (ngB O.num), .slice A1 (digs 4294967296 O.num.natAbs).length c1, .slice D1 (digs 4294967296 O.den).length e1]
  have ba := below_alloc (w := w2) (Nat.le_refl _) (.cells #[.bool (ngB Z.num), .slice A0 (digs 4294967296 Z.num.natAbs).length c0, .slice D0 (digs 4294967296 Z.den).length e0] 46)
  have ba2 := below_alloc (w := w2.alloc (.cells #[.bool (ngB Z.num), .slice A0 (digs 4294967296 Z.num.natAbs).length c0, .slice D0 (digs 4294967296 Z.den).length e0] 46)) (Nat.le_refl _) (.cells #[.bool (ngB O.num), .slice A1 (digs 4294967296 O.num.natAbs).length c1, .slice D1 (digs 4294967296 O.den).length e1] 46)
  have bb2 := ba.trans (ba2.mono ba.size)
  rw [hs1] at B1
  obtain ⟨g, hg⟩ : ∃ g, g = w2.heap.size := ⟨_, rfl⟩
  have q03 := q02.below bb2
  have d03 := d02.below bb2
  have q13 := q1.below bb2
  have d13 := d1.below bb2
  have bb := (b1.trans (b2.mono b1.size)).trans (bb2.mono (Nat.le_trans b1.size b2.size))
  obtain ⟨w3, hw3⟩ : ∃ w3, w3 = (w2.alloc (.cells #[.bool (ngB Z.num), .slice A0 (digs 4294967296 Z.num.natAbs).length c0, .slice D0 (digs 4294967296 Z.den).length e0] 46)).alloc (.cells #[.bool (ngB O.num), .slice A1 (digs 4294967296 O.num.natAbs).length c1, .slice D1 (digs 4294967296 O.den).length e1] 46) := ⟨_, rfl⟩
  rw [← hw3] at B0 B1 q03 d03 q13 d13 bb ⊢
  rw [← hg] at B0 B1 ⊢
  clear hw3 hg hs1 ba ba2 bb2 b1 b2 q02 d02 q1 d1
  obtain ⟨z00, z01, z02, _, _, _⟩ := three B0
  obtain ⟨z10, z11, z12, _, _, _⟩ := three B1
  obtain ⟨T, hT⟩ : ∃ T, T = [[Z, O], [Z, Z]] := ⟨_, rfl⟩
  have ST := tab22 w3 q03 d03 q13 d13 q03 d03 q03 d03
  obtain ⟨y00, y01, y02, _, _, _⟩ := three (B0.alloc (.cells #[.bool (ngB Z.num), .slice A0 (digs 4294967296 Z.num.natAbs).length c0, .slice D0 (digs 4294967296 Z.den).length e0, .bool (ngB O.num), .slice A1 (digs 4294967296 O.num.natAbs).length c1, .slice D1 (digs 4294967296 O.den).length e1] 46))
  go_upto_region 3 with (fail)
  obtain ⟨w4, hw4⟩ : ∃ w4, w4 = (((w3.alloc (.cells #[.bool (ngB Z.num), .slice A0 (digs 4294967296 Z.num.natAbs).length c0, .slice D0 (digs 4294967296 Z.den).length e0, .bool (ngB O.num), .slice A1 (digs 4294967296 O.num.natAbs).length c1, .slice D1 (digs 4294967296 O.den).length e1] 46)).alloc (.cells #[.bool (ngB Z.num), .slice A0 (digs 4294967296 Z.num.natAbs).length c0, .slice D0 (digs 4294967296 Z.den).length e0, .bool (ngB Z.num), .slice A0 (digs 4294967296 Z.num.natAbs).length c0, .slice D0 (digs 4294967296 Z.den).length e0] 46)).alloc (.cells #[.slice (some ⟨w3.heap.size, 0, none⟩) 2 2, .slice (some ⟨w3.heap.size + 1, 0, none⟩) 2 2] 39)) := ⟨_, rfl⟩
  rw [← hw4] at ST ⊢
  obtain ⟨h4, hh4⟩ : ∃ h4, h4 = w3.heap.size + 1 + 1 := ⟨_, rfl⟩
  rw [← hh4] at ST ⊢
  obtain ⟨ST, b4⟩ := ST
  rw [← hT] at ST
  have bb4 := bb.trans (b4.mono bb.size)
  have B04 := B0.below b4
  have q04 := q03.below b4
  have d04 := d03.below b4
  have lz : lenQ Z 1 := by rw [HZ.out]; exact ⟨digs_len_le (k := 1) (by omega) (by decide +kernel), digs_len_le (k := 1) (by omega) (by decide +kernel)⟩
  have lo : lenQ O 1 := by rw [HO.out]; exact ⟨digs_len_le (k := 1) (by omega) (by decide +kernel), digs_len_le (k := 1) (by omega) (by decide +kernel)⟩
  have lT : T.length ≤ 4 ∧ (∀ r ∈ T, r.length ≤ 4) ∧ lenT T 10 := by
    rw [hT]
    refine ⟨by simp, fun r hr => ?_, fun r hr x hx => ?_⟩
    · simp at hr; rcases hr with rfl | rfl <;> simp
    · simp at hr
      rcases hr with rfl | rfl
      · simp at hx; rcases hx with rfl | rfl
        · exact lz.mono (by omega)
        · exact lo.mono (by omega)
      · simp at hx; rw [hx]; exact lz.mono (by omega)
  have mT : mayq T := by rw [hT]; exact ⟨by simp, by show 2 ≤ 200; omega, fun r hr => by simp at hr; rcases hr with rfl | rfl <;> rfl⟩
  have mI : mayq (identq 2) := ⟨by rw [identq_len]; omega, by rw [identq_wide]; omega, identq_even 2⟩
  have HL1 : Hid (([T, T] : List (List (List Rat))).length ≤ 3 ∧ ∀ t ∈ [T, T], t.length ≤ 4 ∧ (∀ r ∈ t, r.length ≤ 4) ∧ lenT t 10) := ⟨by simp, fun t ht => by simp at ht; rw [ht]; exact lT⟩
  have HL2 : Hid (([identq 2, T] : List (List (List Rat))).length ≤ 3 ∧ ∀ t ∈ [identq 2, T], t.length ≤ 4 ∧ (∀ r ∈ t, r.length ≤ 4) ∧ lenT t 10) := ⟨by simp, fun t ht => by
    simp at ht
    rcases ht with rfl | rfl
    · exact ⟨by rw [identq_len]; omega, fun r hr => by rw [identq_rows r hr]; omega, (lenT_ident 2).mono (by omega)⟩
    · exact lT⟩
  have lT2 : T.length = 2 := by rw [hT]; rfl
  have wT2 : wideq T = 2 := by rw [hT]; rfl
  have HF1 : Hid (fitsq [T, T]) := ⟨by simp, fun i t ht => by
    rcases i with _ | _ | i
    · obtain rfl : T = t := by simpa using ht
      exact ⟨mT, fun s h => by omega⟩
    · obtain rfl : T = t := by simpa using ht
      exact ⟨mT, fun s _ hs => by obtain rfl : T = s := by simpa using hs; ; rw [wT2, lT2]⟩
    · simp at ht⟩
  have HF2 : Hid (fitsq [identq 2, T]) := ⟨by simp, fun i t ht => by
    rcases i with _ | _ | i
    · obtain rfl : identq 2 = t := by simpa using ht
      exact ⟨mI, fun s h => by omega⟩
    · obtain rfl : T = t := by simpa using ht
      exact ⟨mT, fun s _ hs => by obtain rfl : identq 2 = s := by simpa using hs; ; rw [identq_wide, lT2]⟩
    · simp at ht⟩
  obtain ⟨P, hP⟩ : ∃ P, P = prodT [T, T] := ⟨_, rfl⟩
  obtain ⟨Q, hQ⟩ : ∃ Q, Q = prodT [identq 2, T] := ⟨_, rfl⟩
  obtain ⟨I2, hI2⟩ : ∃ I2, I2 = identq 2 := ⟨_, rfl⟩
  have HP2 : Hid (P = [[Z, Z], [Z, Z]]) := by show _ = _; rw [hP, hT, HZ.out, HO.out]; decide +kernel
  have HQ2 : Hid (Q = T) := by show _ = _; rw [hQ]; exact identq_mul mT.2.2 lT2
  have HPP := Lib.hid hP.symm
  have HQQ := Lib.hid hQ.symm
  have HII := Lib.hid hI2.symm
  have HT := Lib.hid hT
  clear hw4 hh4 B0 B1 z00 z01 z02 z10 z11 z12 y00 y01 y02 q03 d03 q13 d13 hT hP hQ hI2 bb lz lo lT mT mI lT2 wT2 b4
  have HLa := listT_two (isV_lit w4 22 [.slice (some ⟨h4, 0, none⟩) 2 2, .slice (some ⟨h4, 0, none⟩) 2 2]) (ST.below (below_alloc (Nat.le_refl _) _)) (ST.below (below_alloc (Nat.le_refl _) _))
  have ba := below_alloc (w := w4) (Nat.le_refl _) (.cells #[.slice (some ⟨h4, 0, none⟩) 2 2, .slice (some ⟨h4, 0, none⟩) 2 2] 22)
  go_wp2_with fail
  refine (mmul_any _ [T, T] _ HLa HL1.out).mono ?_
  rintro e w5 h5
  obtain ⟨VP, rfl, SP, b5⟩ : RetTE (prodT [T, T]) 0 _ e w5 := by
    rcases h5 with ⟨_, h5⟩ | ⟨h5, _⟩
    · exact h5
    · exact absurd HF1.out h5
  rw [if_pos rfl, HPP.out] at SP
  obtain ⟨AP, cP, rfl, _, _⟩ := SP.shape
  have b45 := ba.trans (b5.mono ba.size)
  have bb5 := bb4.trans (b45.mono bb4.size)
  clear HLa ba b5
  go_wp2_with fail
  refine (mident_ok 2 2 _ rfl (by omega)).mono ?_
  rintro e w6 ⟨VI, rfl, SI, b6⟩
  rw [if_pos rfl, HII.out] at SI
  obtain ⟨AI, cI, rfl, _, _⟩ := SI.shape
  have ST6 := (ST.below b45).below b6
  have HLb := listT_two (isV_lit w6 22 [.slice AI I2.length cI, .slice (some ⟨h4, 0, none⟩) 2 2]) (SI.below (below_alloc (Nat.le_refl _) _)) (ST6.below (below_alloc (Nat.le_refl _) _))
  have ba := below_alloc (w := w6) (Nat.le_refl _) (.cells #[.slice AI I2.length cI, .slice (some ⟨h4, 0, none⟩) 2 2] 22)
  rw [← HII.out] at HLb
  go_wp2_with fail
  refine (mmul_any _ [identq 2, T] _ (by rw [HII.out] at HLb ⊢; exact HLb) HL2.out).mono ?_
  rintro e w7 h7
  obtain ⟨VQ, rfl, SQ, b7⟩ : RetTE (prodT [identq 2, T]) 0 _ e w7 := by
    rcases h7 with ⟨_, h7⟩ | ⟨h7, _⟩
    · exact h7
    · exact absurd HF2.out h7
  rw [if_pos rfl, HQQ.out] at SQ
  obtain ⟨AQ, cQ, rfl, _, _⟩ := SQ.shape
  have b57 := b6.trans ((ba.trans (b7.mono ba.size)).mono b6.size)
  have b47 := b45.trans (b57.mono b45.size)
  have bb7 := bb4.trans (b47.mono bb4.size)
  have SP7 := SP.below b57
  have ST7 := ST.below b47
  have S22 := tab22 w7 (q04.below b47) (d04.below b47) (q04.below b47) (d04.below b47) (q04.below b47) (d04.below b47) (q04.below b47) (d04.below b47)
  have B07 := B04.below b47
  obtain ⟨z00, z01, z02, _, _, _⟩ := three B07
  obtain ⟨y00, y01, y02, _, _, _⟩ := three (B07.alloc (.cells #[.bool (ngB Z.num), .slice A0 (digs 4294967296 Z.num.natAbs).length c0, .slice D0 (digs 4294967296 Z.den).length e0, .bool (ngB Z.num), .slice A0 (digs 4294967296 Z.num.natAbs).length c0, .slice D0 (digs 4294967296 Z.den).length e0] 46))
  clear SP ST HLb ba b6 b7 b57 b45 B04 B07 q04 d04 SI ST6
  go_wp2_with fail
  refine (msame_any _ _ P [[Z, Z], [Z, Z]] true _ (SP7.below S22.2) S22.1 (decide_eq_true HP2.out).symm).mono ?_
  rintro e w8 ⟨rfl, b8⟩
  have b78 := S22.2.trans (b8.mono S22.2.size)
  have bb8 := bb7.trans (b78.mono bb7.size)
  have SQ8 := SQ.below b78
  have ST8 := ST7.below b78
  clear SP7 ST7 SQ S22 b8 b78
  go_wp2_with fail
  refine (msame_any _ _ Q T true _ SQ8 (by rw [HT.out] at ST8 ⊢; exact ST8) (decide_eq_true HQ2.out).symm).mono ?_
  rintro e w9 ⟨rfl, b9⟩
  have bb9 := bb8.trans (b9.mono bb8.size)
  go_wp2
  go_ret
  exact ⟨rfl, bb9⟩
section
variable {P : Program}
/-- 'all = append(all, x)', all a row of slices of the call's own. -/
theorem wpList_append_w {w : World} {ops : Array Oper} {rest : List Oper} {o : Oper} {a : Act} {Q : Exit → Act → World → Prop} (hgd : o.guard = none) (s x : Operand) {t : TypeId}
    (ho : o.op = .call { callee := .builtin .append, args := #[s, x], argTypes := #[t, t] })
    {base : Nat} {T : TypeId} (hT : P.underlying t = some (.slice T)) (hI : ∃ i, P.info? T = some i ∧ i.zero = some (.slice none 0 0) ∧ i.size = 1 ∧ i.bytes = 24) {v u : Value} {vs : List Value} (hs : a.eval s = v) (hown : RowV w base T v vs) (hx : a.eval x = .slice (some ⟨w.heap.size, 0, none⟩) 1 1) (hu : u.oneCell' = true)
    (hlen : vs.length ≤ 1000000000) (hbase : base ≤ w.heap.size)
    (h : ∀ v' w', RowV w' base T v' (vs ++ [u]) → Below base w w' → Hid (Grew w w' v v') → wpList P ops Q rest (a.put o.dst v') w') : wpList P ops Q (o :: rest) a (w.alloc (.cells #[u] T)) := by
  obtain ⟨i, hi, hz, hsz, hby⟩ := hI
  refine wpList_append_lies (w.alloc (.cells #[u] T)) hgd s x t ho base T i (.slice none 0 0) 1 24 hT hi hz hsz hby rfl (by omega) v vs.length vs hs (World.ownsRow.alloc hown _) ⟨w.heap.size, 0, none⟩ 1 1 [u] hx rfl ?_ ?_ (by omega) (by unfold maxLen; omega) (by omega) (by simp; omega) _ rfl ?_
  · exact World.news_of_block (heap_alloc_new w _)
  · intro u' hu'
    obtain rfl := List.mem_singleton.1 hu'
    exact hu
  · intro g cap w' g1 g2 g3 g4
    have h5 : w.grownBy w' v.ownBlock := grown_trans (World.grownBy_alloc w _ _) g2
    refine h _ w' (by unfold RowV; rw [List.length_append]; exact g1) ((Below.refl base w).grown h5 hbase hown.base_le) ?_
    refine ⟨?_, h5, fun k hk hne e1 => ?_⟩
    · intro k q l hq hf
      refine ⟨hq.farKept hf h5, ?_⟩
      rintro ad n c rfl hn
      rcases g3 with h3 | h3
      · have := hf ad n c rfl hn
        rw [h3] at this
        exact this
      · subst h3
        intro e1
        have e2 : ad.block = (w.alloc (.cells #[u] T)).heap.size := by simpa [Value.ownBlock] using e1
        obtain ⟨A, c', e3, k1, k2, k3⟩ := hq
        injection e3 with e3 e4 e5
        subst e3; subst e4
        obtain ⟨ad', he, hc⟩ := k3 0 _ (List.getElem?_eq_getElem hn)
        injection he with he; subst he
        have h6 := World.block_lt_of_cell? w _ hc
        rw [Go.ChangeShapes.block_add] at h6
        simp at e2
        omega
    · have e2 : g = k := by simpa [Value.ownBlock] using e1
      subst e2
      rcases g3 with h3 | h3
      · exact hne h3
      · simp at h3; omega
end
/-- A variable that holds this fraction, whose limbs are in new memory. -/
def HoldPF (B : Nat) (w : World) (g : Nat) (q : Rat) : Prop := ∃ u t, Blk w g 63 #[.bool (ngB q.num), u, t] ∧ IsS w .i64 u (digs 10000 q.num.natAbs) ∧ IsS w .i64 t (digs 10000 q.den) ∧ Fresh B u ∧ Fresh B t
set_option maxHeartbeats 3200000 in
set_option maxRecDepth 100000 in
theorem rdot_new (a0 a1 : Value) (p q : List Rat) (m : Nat) (w : World) (h0 : SlF .i64 10000 w a0 p) (h1 : SlF .i64 10000 w a1 q) (he : p.length = q.length) (hl : (∀ x ∈ p, lenQ x m) ∧ (∀ x ∈ q, lenQ x m) ∧ (m + m + 1) * p.length + 1 ≤ 4000) :
    Calls Tryz.prog 47 #[a0, a1] w (RetPF (dotq p q) w) := by
  have sl0 := h0
  obtain ⟨A0, c0, rfl, hc0, hm0⟩ := h0.shape
  unfold maxLen at hm0
  have sl1 := h1
  obtain ⟨A1, c1, rfl, hc1, hm1⟩ := h1.shape
  unfold maxLen at hm1
  have HLE := Lib.hid hl
  have HE := Lib.hid he
  clear he hl
  go_enter Tryz.func47, Tryz.ntmps47
  go_upto_region 1 with (fail)
  obtain ⟨wx, hwx, bb, BR0, hsz⟩ := vars1 w 63 #[.bool false, .slice none 0 0, .slice none 0 0]
  rw [hwx]
  clear hwx
  have hsz0 := bb.size
  have sB := bb.size
  have lt0_4 := Blk.lt BR0
  refine flowp 2 [ppf ((0 : Rat)) wx.heap.size, pn 63 #[.bool false, .slice none 0 0, .slice none 0 0] wx.heap.size] (by kernel_rfl) ?ob1 ?done1
  case ob1 =>
    refine And.intro (ob_call2 rfl Tryz.func26 (by kernel_rfl) (wt_none rfl) (ev_const _) (ev_const _) (fun w2 u0 u1 hb h0 h1 => by obtain rfl := h0; obtain rfl := h1; exact (qnum_any 0 1 _ 1 rfl (by omega) (by omega) (by omega) (by omega)).mono fun e w3 h => RetPF.pdf ((show mkRat 0 1 = (0 : Rat) by decide +kernel) ▸ h) hb.size)) ?_
    refine And.intro (ob_alloc (z := .agg #[.bool false, .slice none 0 0, .slice none 0 0]) rfl rfl (fun _ => by kernel_rfl) (fun _ _ hB h => ⟨_, rfl, hB, h⟩)) ?_
    trivial
  case done1 =>
    refine fun w1 hb1 v0 h0 v1 h1 d1 b hbf => ?_
    obtain ⟨q0, f0⟩ := h0
    obtain ⟨g1_1, rfl, hg1, B1⟩ := h1
    simp only [Act.put, List.setIfInBounds_toArray, List.set_cons_zero, List.set_cons_succ] at hbf
    subst hbf
    replace BR0 := BR0.below hb1
    replace bb := bb.trans (hb1.mono bb.size)
    have hsz1 := bb.size
    have s_0 := sB
    have BA5 := B1
    obtain ⟨u0, t0, rfl, q0, d0⟩ := q0
    obtain ⟨A5, c5, rfl, _⟩ := id q0
    obtain ⟨D5, e5, rfl, _⟩ := id d0
    refine ops_store (i := 2) rfl rfl rfl rfl rfl rfl (cells := [.bool (ngB ((0 : Rat)).num), .slice A5 (digs 10000 ((0 : Rat)).num.natAbs).length c5, .slice D5 (digs 10000 ((0 : Rat)).den).length e5]) rfl BA5 rfl (by kernel_rfl) (one3 rfl rfl rfl) fun w2 hg2 BN2 => ?_
    replace q0 := off q0 BA5 no_ints3 hg2
    replace d0 := off d0 BA5 no_ints3 hg2
    replace BR0 := BR0.grown hg2 (by omega)
    replace bb := bb.trans ((Below.refl _ _).grown hg2 bb.size (fun g hg => by injection hg with hg; omega))
    have hsz2 := bb.size
    have B5 : Blk w2 (g1_1) _ _ := BN2
    have k5s := q0
    have k5d := d0
    have k5z : IsR w2 (.agg #[.bool (ngB ((0 : Rat)).num), .slice A5 (digs 10000 ((0 : Rat)).num.natAbs).length c5]) (((0 : Rat)).num) := ⟨_, rfl, k5s⟩
    have k5 : IsP w2 (.agg #[.bool (ngB ((0 : Rat)).num), .slice A5 (digs 10000 ((0 : Rat)).num.natAbs).length c5, .slice D5 (digs 10000 ((0 : Rat)).den).length e5]) ((0 : Rat)) := ⟨_, _, rfl, k5s, k5d⟩
    refine ops_done ?_
    have fS5 := (f0 _ _ _ rfl).1.mono s_0
    have fT5 := (f0 _ _ _ rfl).2.mono s_0
    go_wp2
    go_loopw [6] (fun v6 wr => ∃ k : Nat, k ≤ p.length ∧ HoldPF w.heap.size wr g1_1 (sumq ((prods p q).take k)) ∧ Blk wr w.heap.size 63 #[.bool false, .slice none 0 0, .slice none 0 0] ∧ Below w.heap.size w wr ∧ g1_1 < wr.heap.size ∧ v6 = .int .i64 (k : Int)) (fun v6 _ => p.length - (intOf v6).toNat)
    case atStart => exact ⟨0, by omega, ⟨_, _, B5, k5s, k5d, fS5, fT5⟩, BR0, bb, B5.lt, rfl⟩
    case round =>
      obtain ⟨k, hk, hH, hR, hbw, hGl, rfl⟩ := hrel
      clear B5 k5s k5d k5z k5 BR0 bb fS5 fT5
      have BR0 := hR
      have bb := hbw
      obtain ⟨u5, t5, B5, k5s, k5d, fS5, fT5⟩ := hH
      obtain ⟨A5, c5, rfl, _⟩ := id k5s
      obtain ⟨D5, e5, rfl, _⟩ := id k5d
      obtain ⟨s, hs⟩ : ∃ s, s = sumq ((prods p q).take k) := ⟨_, rfl⟩
      rw [← hs] at B5 k5s k5d fS5 fT5
      have HS := Lib.hid hs
      clear hs hR hbw
      have ls : lenQ s 4000 := by
        rw [HS.out]
        refine (lenQ_sumq (fun x hx => lenQ_prods HLE.out.1 HLE.out.2.1 x (List.mem_of_mem_take hx))).mono ?_
        rw [List.length_take, show (prods p q).length = p.length from zip_len HE.out, Nat.min_eq_left hk]
        exact Nat.le_trans (Nat.add_le_add_right (Nat.mul_le_mul_left _ hk) _) HLE.out.2.2
      have k5z : IsR wr (.agg #[.bool (ngB s.num), .slice A5 (digs 10000 s.num.natAbs).length c5]) s.num := ⟨_, rfl, k5s⟩
      have k5 : IsP wr (.agg #[.bool (ngB s.num), .slice A5 (digs 10000 s.num.natAbs).length c5, .slice D5 (digs 10000 s.den).length e5]) s := ⟨_, _, rfl, k5s, k5d⟩
      have hszr := bb.size
      by_cases hlt : k < p.length
      · have hlt2 : k < q.length := by have := HE.out; omega
        obtain ⟨x, hq0_⟩ : ∃ x, p[k]? = some x := ⟨_, List.getElem?_eq_getElem hlt⟩
        obtain ⟨g0_, o0_, ue0, te0, hA0_, _, e00, e01, e02, es0, ed0⟩ := (sl0.below bb).at_ hq0_
        subst hA0_
        have HQ0 := Lib.hid hq0_
        clear hq0_
        obtain ⟨Ae0, ce0, rfl, _⟩ := id es0
        obtain ⟨De0, ee0, rfl, _⟩ := id ed0
        have ke0 : IsP wr (.agg #[.bool (ngB x.num), .slice Ae0 (digs 10000 x.num.natAbs).length ce0, .slice De0 (digs 10000 x.den).length ee0]) x := ⟨_, _, rfl, es0, ed0⟩
        obtain ⟨y, hq1_⟩ : ∃ y, q[k]? = some y := ⟨_, List.getElem?_eq_getElem hlt2⟩
        obtain ⟨g1_, o1_, ue1, te1, hA1_, _, e10, e11, e12, es1, ed1⟩ := (sl1.below bb).at_ hq1_
        subst hA1_
        have HQ1 := Lib.hid hq1_
        clear hq1_
        obtain ⟨Ae1, ce1, rfl, _⟩ := id es1
        obtain ⟨De1, ee1, rfl, _⟩ := id ed1
        have ke1 : IsP wr (.agg #[.bool (ngB y.num), .slice Ae1 (digs 10000 y.num.natAbs).length ce1, .slice De1 (digs 10000 y.den).length ee1]) y := ⟨_, _, rfl, es1, ed1⟩
        have hm2 : m + m + 1 ≤ 4000 := by have := HLE.out.2.2; have := Nat.le_trans (Nat.le_mul_of_pos_right (m + m + 1) (show 0 < p.length by omega)) (Nat.le_of_succ_le this); omega
        have lx : lenQ x m := HLE.out.1 x (List.mem_of_getElem? HQ0.out)
        have ly : lenQ y m := HLE.out.2.1 y (List.mem_of_getElem? HQ1.out)
        have lxy : lenQ (x * y) 4000 := (lenQ_mul lx ly).mono (by omega)
        have sB := bb.size
        go_upto_region 5 with (fail)
        refine flow 11 [Pd.eq (.agg #[.bool (ngB (s).num), .slice A5 (digs 10000 (s).num.natAbs).length c5, .slice D5 (digs 10000 (s).den).length e5]), Pd.eq (.slice (some ⟨g0_, o0_, none⟩) p.length c0), Pd.eq (.int .i64 (k : Int)), Pd.eq (.pointer (some ⟨g0_, o0_ + k * 3, none⟩)), Pd.eq (.agg #[.bool (ngB x.num), .slice Ae0 (digs 10000 x.num.natAbs).length ce0, .slice De0 (digs 10000 x.den).length ee0]), Pd.eq (.slice (some ⟨g1_, o1_, none⟩) q.length c1), Pd.eq (.int .i64 (k : Int)), Pd.eq (.pointer (some ⟨g1_, o1_ + k * 3, none⟩)), Pd.eq (.agg #[.bool (ngB y.num), .slice Ae1 (digs 10000 y.num.natAbs).length ce1, .slice De1 (digs 10000 y.den).length ee1]), pp ((x * y)), ppf ((s + x * y)) wr.heap.size] (by kernel_rfl) (by kernel_rfl) ?ob2 ?done2
        case ob2 =>
          refine And.intro (ob_load rfl (wt_none rfl) (ev_far rfl rfl) (fun w2 hb => run_loadAll Tryz.underlying63 rfl (by kernel_rfl) (B5.drew.below hb)) (fun _ _ => rfl)) ?_
          refine And.intro (ob_move rfl (wt_none rfl) (ev_far rfl rfl) (fun _ _ h => h)) ?_
          refine And.intro (ob_move rfl (wt_none rfl) (ev_far rfl rfl) (fun _ _ h => h)) ?_
          refine And.intro (ob_indexAddr rfl (wt_none rfl) (ev_dep (j := 1) (by kernel_rfl) rfl rfl) (ev_dep (j := 2) (by kernel_rfl) rfl rfl) (fun _ _ _ hx hy => ⟨_, by rw [hx, hy]; exact index3 Tryz.underlying48 (by kernel_rfl) hlt _, rfl⟩)) ?_
          refine And.intro (ob_load rfl (wt_none rfl) (ev_dep (j := 3) (by kernel_rfl) rfl rfl) (fun w2 hb => load3 Tryz.underlying63 rfl (by kernel_rfl) ((hb.cell (World.block_lt_of_cell? wr _ e00)).trans e00) ((hb.cell (World.block_lt_of_cell? wr _ e01)).trans e01) ((hb.cell (World.block_lt_of_cell? wr _ e02)).trans e02)) (fun _ _ => rfl)) ?_
          refine And.intro (ob_move rfl (wt_none rfl) (ev_far rfl rfl) (fun _ _ h => h)) ?_
          refine And.intro (ob_move rfl (wt_none rfl) (ev_far rfl rfl) (fun _ _ h => h)) ?_
          refine And.intro (ob_indexAddr rfl (wt_none rfl) (ev_dep (j := 5) (by kernel_rfl) rfl rfl) (ev_dep (j := 6) (by kernel_rfl) rfl rfl) (fun _ _ _ hx hy => ⟨_, by rw [hx, hy]; exact index3 Tryz.underlying48 (by kernel_rfl) hlt2 _, rfl⟩)) ?_
          refine And.intro (ob_load rfl (wt_none rfl) (ev_dep (j := 7) (by kernel_rfl) rfl rfl) (fun w2 hb => load3 Tryz.underlying63 rfl (by kernel_rfl) ((hb.cell (World.block_lt_of_cell? wr _ e10)).trans e10) ((hb.cell (World.block_lt_of_cell? wr _ e11)).trans e11) ((hb.cell (World.block_lt_of_cell? wr _ e12)).trans e12)) (fun _ _ => rfl)) ?_
          refine And.intro (ob_call2 rfl Tryz.func73 (by kernel_rfl) (wt_none rfl) (ev_dep (j := 4) (by kernel_rfl) rfl rfl) (ev_dep (j := 8) (by kernel_rfl) rfl rfl) (fun w2 u0 u1 hb h0 h1 => by obtain rfl := h0; obtain rfl := h1; exact (qmul_any _ x _ y _ (ke0.drew.below hb) (ke1.drew.below hb) (lx.mono (by omega)) (ly.mono (by omega))).mono fun e w3 h => RetPF.pd h)) ?_
          refine And.intro (ob_call2 rfl Tryz.func72 (by kernel_rfl) (wt_none rfl) (ev_dep (j := 0) (by kernel_rfl) rfl rfl) (ev_dep (j := 9) (by kernel_rfl) rfl rfl) (fun w2 u0 u1 hb h0 h1 => by obtain rfl := h0; exact (qadd_any _ s _ (x * y) _ (k5.drew.below hb) h1 (ls.mono (by decide)) (lxy.mono (by decide))).mono fun e w3 h => RetPF.pdf h hb.size)) ?_
          trivial
        case done2 =>
          refine fun w4 hb4 v0 h0 v1 h1 v2 h2 v3 h3 v4 h4 v5 h5 v6 h6 v7 h7 v8 h8 v9 h9 v10 h10 b hbf => ?_
          obtain rfl := h0; obtain rfl := h1; obtain rfl := h2; obtain rfl := h3; obtain rfl := h4; obtain rfl := h5; obtain rfl := h6; obtain rfl := h7; obtain rfl := h8
          have q9 := h9
          obtain ⟨q10, f10⟩ := h10
          simp only [Act.put, List.setIfInBounds_toArray, List.set_cons_zero, List.set_cons_succ] at hbf
          subst hbf
          replace BR0 := BR0.below hb4
          replace B5 := B5.below hb4
          replace k5s := k5s.below hb4
          replace k5d := k5d.below hb4
          replace k5z := k5z.below hb4
          replace k5 := k5.below hb4
          replace bb := bb.trans (hb4.mono bb.size)
          have hsz4 := bb.size
          have s_10 := sB
          obtain ⟨u10, t10, rfl, q10, d10⟩ := q10
          obtain ⟨A4, c4, rfl, _⟩ := id q10
          obtain ⟨D4, e4, rfl, _⟩ := id d10
          have fS4 := (f10 _ _ _ rfl).1.mono s_10
          have fT4 := (f10 _ _ _ rfl).2.mono s_10
          refine any_store (i := 11) (by kernel_rfl) rfl rfl rfl rfl rfl rfl (cells := [.bool (ngB ((s + x * y)).num), .slice A4 (digs 10000 ((s + x * y)).num.natAbs).length c4, .slice D4 (digs 10000 ((s + x * y)).den).length e4]) rfl B5 rfl (by kernel_rfl) (one3 rfl rfl rfl) fun w5 hg5 BN5 => ?_
          replace q10 := off q10 B5 no_ints3 hg5
          replace d10 := off d10 B5 no_ints3 hg5
          replace BR0 := BR0.grown hg5 (by omega)
          replace bb := bb.trans ((Below.refl _ _).grown hg5 bb.size (fun g hg => by injection hg with hg; omega))
          have hsz5 := bb.size
          have B4 : Blk w5 (g1_1) _ _ := BN5
          have k4s := q10
          have k4d := d10
          have k4z : IsR w5 (.agg #[.bool (ngB ((s + x * y)).num), .slice A4 (digs 10000 ((s + x * y)).num.natAbs).length c4]) (((s + x * y)).num) := ⟨_, rfl, k4s⟩
          have k4 : IsP w5 (.agg #[.bool (ngB ((s + x * y)).num), .slice A4 (digs 10000 ((s + x * y)).num.natAbs).length c4, .slice D4 (digs 10000 ((s + x * y)).den).length e4]) ((s + x * y)) := ⟨_, _, rfl, k4s, k4d⟩
          refine any_done (by kernel_rfl) ?_
          have HN : Hid (s + x * y = sumq ((prods p q).take (k + 1))) := by show _ = _; rw [take_snoc (show (prods p q)[k]? = some (x * y) from zip_at HQ0.out HQ1.out), sumq_snoc, HS.out]
          go_wp2
          go_roundw
          case rel => exact ⟨k + 1, by omega, by rw [← HN.out]; exact ⟨_, _, B4, k4s, k4d, fS4, fT4⟩, BR0, bb, B4.lt, by go_num⟩
          case measure => simp [intOf]; omega
      · have HN : Hid (s = dotq p q) := by show _ = _; rw [HS.out, List.take_of_length_le (by rw [show (prods p q).length = p.length from zip_len HE.out]; omega)]; rfl
        have sB := bb.size
        go_upto_region 6 with (fail)
        refine flowp 1 [Pd.eq (.agg #[.bool (ngB (s).num), .slice A5 (digs 10000 (s).num.natAbs).length c5, .slice D5 (digs 10000 (s).den).length e5])] (by kernel_rfl) ?ob3 ?done3
        case ob3 =>
          refine And.intro (ob_load rfl (wt_none rfl) (ev_far rfl rfl) (fun w2 hb => run_loadAll Tryz.underlying63 rfl (by kernel_rfl) (B5.below hb)) (fun _ _ => rfl)) ?_
          trivial
        case done3 =>
          refine fun w4 hb4 v0 h0 b hbf => ?_
          obtain rfl := h0
          simp only [Act.put, List.setIfInBounds_toArray, List.set_cons_zero, List.set_cons_succ] at hbf
          subst hbf
          replace BR0 := BR0.below hb4
          replace B5 := B5.below hb4
          replace k5s := k5s.below hb4
          replace k5d := k5d.below hb4
          replace k5z := k5z.below hb4
          replace k5 := k5.below hb4
          replace bb := bb.trans (hb4.mono bb.size)
          have hsz4 := bb.size
          refine ops_store (i := 1) rfl rfl rfl rfl rfl rfl (cells := [.bool (ngB (s).num), .slice A5 (digs 10000 (s).num.natAbs).length c5, .slice D5 (digs 10000 (s).den).length e5]) rfl BR0 rfl (by kernel_rfl) (one3 rfl rfl rfl) fun w9 hg9 B9 => ?_
          have k9 := off k5s BR0 no_ints3 hg9
          have d9 := off k5d BR0 no_ints3 hg9
          have bb9 := bb.trans ((Below.refl _ _).grown hg9 bb.size (fun g hg => by injection hg with hg; omega))
          obtain ⟨C0, C1, C2, _, _, _⟩ := three B9
          refine ops_done ?_
          go_wp2
          rw [← HN.out]
          exact bodyPost_ret (v := .agg #[.bool (ngB (s).num), .slice A5 (digs 10000 (s).num.natAbs).length c5, .slice D5 (digs 10000 (s).den).length e5]) (by simp [results, Tryz.results47, go_sem, C0, C1, C2]) rfl ⟨_, rfl, ⟨_, _, rfl, k9, d9⟩, freshQ_mk fS5 fT5, bb9⟩
/-- A row of its own, of limbs that were there ahead of it. -/
def RetCol (w : World) (r : List Rat) (W : World) (e : Ending) (w' : World) : Prop := ∃ u ps, e = .returned u ∧ ps.map (·.1) = r ∧ RowF 63 w' W.heap.size u ps ∧ FarF .i64 10000 w' u ps ∧ (∀ p ∈ ps, IsE .i64 10000 w p) ∧ Below W.heap.size W w'
set_option maxHeartbeats 3200000 in
set_option maxRecDepth 100000 in
theorem rcol_any (a0 : Value) (t : List (List Rat)) (j : Nat) (w W : World) (h0 : SlT .i64 10000 w a0 t) (hb : Below w.heap.size w W) (hj : ∀ r ∈ t, j < r.length) (hl : t.length ≤ 1000000) :
    Calls Tryz.prog 48 #[a0, .int .i64 (j : Int)] W (RetCol w (colq t j) W) := by
  have bb : Below w.heap.size w w := Below.refl _ _
  have st0 := h0
  obtain ⟨A0, c0, rfl, hc0, hm0⟩ := h0.shape
  unfold maxLen at hm0
  have HJ := Lib.hid hj
  have hbase : w.heap.size ≤ W.heap.size := hb.size
  have HCL : Hid ((colq t j).length = t.length) := colq_len t j
  clear bb hj
  have bb : Below w.heap.size w W := hb
  have bW : Below W.heap.size W W := Below.refl _ _
  go_enter Tryz.func48, Tryz.ntmps48
  go_upto_region 1 with (fail)
  have hsz0 := bb.size
  go_wp2
  go_loopw [5, 6] (fun v5 v6 wr => ∃ (k : Nat) (ps : List Elt), k ≤ t.length ∧ Hid (ps.map (·.1) = (colq t j).take k) ∧ RowF 63 wr W.heap.size v5 ps ∧ FarF .i64 10000 wr v5 ps ∧ Hid (∀ p ∈ ps, IsE .i64 10000 w p) ∧ Below W.heap.size W wr ∧ v6 = .int .i64 (k : Int)) (fun _ v6 _ => t.length - (intOf v6).toNat)
  case atStart => exact ⟨0, [], by omega, rfl, rowF_lit0 _ _ _ (Nat.le_refl _), FarF.nil _ _ _ _, (by show ∀ p ∈ _, _; intro p hp; cases hp), below_alloc (Nat.le_refl _) _, rfl⟩
  case round =>
    obtain ⟨k, ps, hk, HP, hR, hF, HO, hbW, rfl⟩ := hrel
    clear bb bW
    have bb : Below w.heap.size w wr := hb.trans (hbW.mono hb.size)
    have hszr := bb.size
    by_cases hlt : k < t.length
    · have hnt : t ≠ [] := List.length_pos_iff.1 (by omega)
      obtain ⟨x, hx⟩ : ∃ x, t[k]? = some x := ⟨_, List.getElem?_eq_getElem hlt⟩
      have HX := Lib.hid hx
      have hjx : j < x.length := HJ.out x (List.mem_of_getElem? hx)
      obtain ⟨ad0, rfl⟩ := st0.place hnt
      obtain ⟨Arx, crx, hix, ewx, srx⟩ := st0.at2 hx
      clear hx
      have ecx := (bb.cell (World.block_lt_of_cell? w _ ewx)).trans ewx
      obtain ⟨y, hy⟩ : ∃ y, x[j]? = some y := ⟨_, List.getElem?_eq_getElem hjx⟩
      have HCA : Hid ((colq t j)[k]? = some y) := by show _ = _; rw [colq_at HX.out, getD_of hy]
      obtain ⟨gy_, oy_, uy, ty, hAy_, _, y0, y1, y2, ys, yd⟩ := srx.at_ hy
      subst hAy_
      obtain ⟨Ay, cy, rfl, _⟩ := id ys
      obtain ⟨Dy, ey, rfl, _⟩ := id yd
      have zy0 := (bb.cell (World.block_lt_of_cell? w _ y0)).trans y0
      have zy1 := (bb.cell (World.block_lt_of_cell? w _ y1)).trans y1
      have zy2 := (bb.cell (World.block_lt_of_cell? w _ y2)).trans y2
      clear hy y0 y1 y2
      obtain ⟨AR, cR, hAR, _⟩ := hR.isVF
      subst hAR
      have HL8 : Hid (ps.length ≤ 1000000000) := by
        have h1 := congrArg List.length HP.out
        rw [List.length_map, List.length_take] at h1
        show _ ≤ _
        omega
      have sB := bb.size
      go_upto_region 5 with (fail)
      refine flowp 9 [Pd.eq (.slice AR ps.length cR), Pd.eq (.slice (some ad0) t.length c0), Pd.eq (.int .i64 (k : Int)), Pd.eq (.pointer (some (ad0.add k))), Pd.eq (.slice (some ⟨gy_, oy_, none⟩) x.length crx), Pd.eq (.int .i64 (j : Int)), Pd.eq (.pointer (some ⟨gy_, oy_ + j * 3, none⟩)), Pd.eq (.agg #[.bool (ngB (y).num), .slice Ay (digs 10000 (y).num.natAbs).length cy, .slice Dy (digs 10000 (y).den).length ey]), pone (Pd.eq (.agg #[.bool (ngB (y).num), .slice Ay (digs 10000 (y).num.natAbs).length cy, .slice Dy (digs 10000 (y).den).length ey]))] (by kernel_rfl) ?ob1 ?done1
      case ob1 =>
        refine And.intro (ob_move rfl (wt_none rfl) (ev_far rfl rfl) (fun _ _ h => h)) ?_
        refine And.intro (ob_move rfl (wt_none rfl) (ev_far rfl rfl) (fun _ _ h => h)) ?_
        refine And.intro (ob_move rfl (wt_none rfl) (ev_far rfl rfl) (fun _ _ h => h)) ?_
        refine And.intro (ob_indexAddr rfl (wt_none rfl) (ev_dep (j := 1) (by kernel_rfl) rfl rfl) (ev_dep (j := 2) (by kernel_rfl) rfl rfl) (fun _ _ _ hx hy => ⟨_, by rw [hx, hy]; exact index1_any (k := k) Tryz.underlying23 (by kernel_rfl) ad0 hlt _, rfl⟩)) ?_
        refine And.intro (ob_load rfl (wt_none rfl) (ev_dep (j := 3) (by kernel_rfl) rfl rfl) (fun w2 hb => run_load1 Tryz.underlying48 rfl ((hb.cell (World.block_lt_of_cell? wr _ ecx)).trans ecx)) (fun _ _ => rfl)) ?_
        refine And.intro (ob_move rfl (wt_none rfl) (ev_far rfl rfl) (fun _ _ h => h)) ?_
        refine And.intro (ob_indexAddr rfl (wt_none rfl) (ev_dep (j := 4) (by kernel_rfl) rfl rfl) (ev_dep (j := 5) (by kernel_rfl) rfl rfl) (fun _ _ _ hx hy => ⟨_, by rw [hx, hy]; exact index3 (k := j) Tryz.underlying48 (by kernel_rfl) hjx _, rfl⟩)) ?_
        refine And.intro (ob_load rfl (wt_none rfl) (ev_dep (j := 6) (by kernel_rfl) rfl rfl) (fun w2 hb => load3 Tryz.underlying63 rfl (by kernel_rfl) ((hb.cell (World.block_lt_of_cell? wr _ zy0)).trans zy0) ((hb.cell (World.block_lt_of_cell? wr _ zy1)).trans zy1) ((hb.cell (World.block_lt_of_cell? wr _ zy2)).trans zy2)) (fun _ _ => rfl)) ?_
        refine And.intro (ob_build_q (φ := Pd.eq (.agg #[.bool (ngB (y).num), .slice Ay (digs 10000 (y).num.natAbs).length cy, .slice Dy (digs 10000 (y).den).length ey])) rfl rfl (ev_dep (j := 7) (by kernel_rfl) rfl rfl) Tryz.underlying48 info_q (fun w v h => ⟨h, by obtain rfl := h; exact ⟨_, _, _, rfl, rfl, rfl, rfl⟩⟩) (fun _ _ h => h)) ?_
        trivial
      case done1 =>
        refine fun w12 hb12 v0 h0 v1 h1 v2 h2 v3 h3 v4 h4 v5 h5 v6 h6 v7 h7 v8 h8 b hbf => ?_
        obtain rfl := h0; obtain rfl := h1; obtain rfl := h2; obtain rfl := h3; obtain rfl := h4; obtain rfl := h5; obtain rfl := h6; obtain rfl := h7
        obtain ⟨g8_, x8, y8, z8, rfl, c80, c81, c82, K8⟩ := h8
        simp only [Act.put, List.setIfInBounds_toArray, List.set_cons_zero, List.set_cons_succ] at hbf
        subst hbf
        replace hR := hR.below hb12
        replace hF := hF.below hb12
        replace bb := bb.trans (hb12.mono bb.size)
        have hsz12 := bb.size
        replace hbW := hbW.trans (hb12.mono hbW.size)
        obtain ⟨rfl, rfl, rfl⟩ : x8 = .bool (ngB (y).num) ∧ y8 = .slice Ay (digs 10000 (y).num.natAbs).length cy ∧ z8 = .slice Dy (digs 10000 (y).den).length ey := by
          have e := K8
          injection e with e
          simpa using e
        have hszB : W.heap.size ≤ w12.heap.size := hbW.size
        have hbl := fun g h => Nat.le_trans hbase (hR.base_le g h)
        refine ops_append_q (i := 9) (.tmp 14) (.tmp 22) rfl rfl rfl Tryz.underlying48 info_q (p := (y, .slice Ay (digs 10000 (y).num.natAbs).length cy, .slice Dy (digs 10000 (y).den).length ey)) (ps := ps) rfl hR rfl c80 c81 c82 rfl rfl HL8.out hszB fun v8 w8 b8 row8 bb8 HK8 hb8 => ?_
        simp only [Act.put, List.setIfInBounds_toArray, List.set_cons_zero, List.set_cons_succ] at hb8
        subst hb8
        have EC : IsE .i64 10000 w12 ((y, .slice Ay (digs 10000 (y).num.natAbs).length cy, .slice Dy (digs 10000 (y).den).length ey) : Elt) := ⟨ys.below bb, yd.below bb⟩
        have F8 := hF.snoc HK8.out.1 EC (ys.farOld hbl) (yd.farOld hbl)
        have HO8 : Hid (∀ p ∈ ps ++ [((y, .slice Ay (digs 10000 (y).num.natAbs).length cy, .slice Dy (digs 10000 (y).den).length ey) : Elt)], IsE .i64 10000 w p) := fun p hp => by
          rcases List.mem_append.1 hp with hp | hp
          · exact HO.out p hp
          · rw [List.mem_singleton.1 hp]; exact ⟨ys, yd⟩
        have HP8 : Hid ((ps ++ [((y, .slice Ay (digs 10000 (y).num.natAbs).length cy, .slice Dy (digs 10000 (y).den).length ey) : Elt)]).map (·.1) = (colq t j).take (k + 1)) := by
          show _ = _
          rw [List.map_append, HP.out, take_snoc HCA.out]
          rfl
        have b8 := hbW.trans bb8
        clear HK8 EC hR hF
        refine ops_assign (i := 10) (v8) rfl rfl rfl rfl rfl fun b hbf => ?_
        simp only [Act.put, List.setIfInBounds_toArray, List.set_cons_zero, List.set_cons_succ] at hbf
        subst hbf
        refine ops_done ?_
        have hsk : t.length - (k + 1) < t.length - k := by omega
        go_wp2
        go_roundw
        case rel => exact ⟨k + 1, _, by omega, HP8, row8, F8, HO8, b8, by go_num⟩
        case measure => simp [intOf]; omega
    · have HPE : Hid (ps.map (·.1) = colq t j) := by show _ = _; rw [HP.out, List.take_of_length_le (by rw [HCL.out]; omega)]
      clear HP
      go_wp2
      go_ret
      exact ⟨_, ps, rfl, HPE.out, hR, hF, HO.out, hbW⟩
theorem take_succ_of {α : Type} {l : List α} {k : Nat} {x : α} (h : l[k]? = some x) : l.take (k + 1) = l.take k ++ [x] := by rw [List.take_add_one, h]; rfl
set_option maxHeartbeats 6400000 in
set_option maxRecDepth 100000 in
theorem rmulT_any (a0 a1 : Value) (p q : List (List Rat)) (m : Nat) (w : World) (h0 : SlT .i64 10000 w a0 p) (h1 : SlT .i64 10000 w a1 q) (he : ∀ r ∈ p, r.length = q.length) (hl : p.length ≤ 1000 ∧ q.length ≤ 1000 ∧ wideq q ≤ 1000 ∧ evenq q ∧ lenT p m ∧ lenT q m ∧ 1 ≤ m ∧ (m + m + 1) * q.length + 1 ≤ 4000) :
    Calls Tryz.prog 23 #[a0, a1] w (RetSlT .i64 10000 (mulq p q) w) := by
  have st0 := h0
  obtain ⟨A0, c0, rfl, hc0, hm0⟩ := h0.shape
  unfold maxLen at hm0
  have st1 := h1
  obtain ⟨A1, c1, rfl, hc1, hm1⟩ := h1.shape
  unfold maxLen at hm1
  have HL := Lib.hid hl
  have HE := Lib.hid he
  have hp2 : p.length ≤ 1000 := hl.1
  have hw2 : wideq q ≤ 1000 := hl.2.2.1
  have HML : Hid ((mulq p q).length = p.length) := mulq_len p q
  clear hl he
  go_enter Tryz.func23, Tryz.ntmps23
  go_wp2
  go_loopw [5, 6] (fun v5 v6 wr => ∃ (k : Nat) (us : List Value), k ≤ p.length ∧ RowV wr w.heap.size 48 v5 us ∧ TabF .i64 10000 wr v5 us ((mulq p q).take k) ∧ Below w.heap.size w wr ∧ v6 = .int .i64 (k : Int)) (fun _ v6 _ => p.length - (intOf v6).toNat)
  case atStart => exact ⟨0, [], by omega, rowV_lit0 _ _ _ (Nat.le_refl _), TabF.nil _ _ _ _, below_alloc (Nat.le_refl _) _, rfl⟩
  case round =>
    obtain ⟨k, us, hk, hR, hT, bb, rfl⟩ := hrel
    have hsh : ∃ A n c, u5 = .slice A n c := by
      rcases hR.2 with ⟨e, _⟩ | ⟨g, cap, cur, e, _⟩
      · exact ⟨_, _, _, e⟩
      · exact ⟨_, _, _, e⟩
    obtain ⟨A5, n5, c5, rfl⟩ := hsh
    by_cases hlt : k < p.length
    · have hnp : p ≠ [] := List.length_pos_iff.1 (by omega)
      obtain ⟨x, hx⟩ : ∃ x, p[k]? = some x := ⟨_, List.getElem?_eq_getElem hlt⟩
      have hxm := List.mem_of_getElem? hx
      obtain ⟨ad, rfl⟩ := st0.place hnp
      obtain ⟨Ax, cx, hix, ewx, srx⟩ := st0.at2 hx
      have HUL : Hid (us.length ≤ 1000000000) := by
        have h1 := hT.1
        rw [List.length_take, HML.out] at h1
        show _ ≤ _
        omega
      have HAT : Hid ((mulq p q).take (k + 1) = (mulq p q).take k ++ [rowq x q (wideq q)]) := take_succ_of (mulq_at hx)
      have HXL : Hid (x.length = q.length) := HE.out x hxm
      have HXB : Hid ((∀ y ∈ x, lenQ y m) ∧ (m + m + 1) * x.length + 1 ≤ 4000) := ⟨HL.out.2.2.2.2.1 x hxm, by rw [HXL.out]; exact HL.out.2.2.2.2.2.2.2⟩
      have HRL : Hid ((rowq x q (wideq q)).length = wideq q) := rowq_len _ _ _
      obtain ⟨W1, hW1⟩ : ∃ W1, W1 = wr := ⟨_, rfl⟩
      subst hW1
      clear hx hxm
      go_wp2
      go_loopw [7, 8] (fun v7 v8 wr => ∃ (j : Nat) (ps : List Elt), j ≤ wideq q ∧ Hid (ps.map (·.1) = (rowq x q (wideq q)).take j) ∧ RowF 63 wr W1.heap.size v7 ps ∧ FarF .i64 10000 wr v7 ps ∧ NewL W1.heap.size ps ∧ Below W1.heap.size W1 wr ∧ v8 = .int .i64 (j : Int)) (fun _ v8 _ => wideq q - (intOf v8).toNat)
      case atStart => exact ⟨0, [], by omega, rfl, rowF_lit0 _ _ _ (Nat.le_refl _), FarF.nil _ _ _ _, NewL.nil _, below_alloc (Nat.le_refl _) _, rfl⟩
      case round =>
        obtain ⟨j, ps, hj, HP, hRw, hFw, hN, hb1, rfl⟩ := hrel
        obtain ⟨Ar, cr, hAr, _⟩ := hRw.isVF
        subst hAr
        have bbr := bb.trans (hb1.mono bb.size)
        go_wp2_with fail
        refine (rwide_any _ q _ (st1.below bbr)).mono ?_
        rintro e w2 ⟨rfl, b2⟩
        have hb2 := hb1.trans (b2.mono hb1.size)
        have bb2 := bb.trans (hb2.mono bb.size)
        have hR2 := hRw.below b2
        have hF2 := hFw.below b2
        clear hRw hFw b2 bbr hb1
        by_cases hlt2 : j < wideq q
        · have HJ : Hid (∀ r ∈ q, j < r.length) := fun r hr => by rw [HL.out.2.2.2.1 r hr]; exact hlt2
          have HTJ : Hid ((rowq x q (wideq q)).take (j + 1) = (rowq x q (wideq q)).take j ++ [dotq x (colq q j)]) := take_succ_of (rowq_at hlt2)
          have HCL : Hid (x.length = (colq q j).length) := by show _ = _; rw [colq_len, HXL.out]
          have HDB : Hid ((∀ y ∈ x, lenQ y m) ∧ (∀ y ∈ colq q j, lenQ y m) ∧ (m + m + 1) * x.length + 1 ≤ 4000) := ⟨HXB.out.1, lenT_col HL.out.2.2.2.2.2.1 HL.out.2.2.2.2.2.2.1, HXB.out.2⟩
          have HL8 : Hid (ps.length ≤ 1000000000) := by
            have h1 := congrArg List.length HP.out
            rw [List.length_map, List.length_take, HRL.out] at h1
            show _ ≤ _
            omega
          have bd := bb2.drew
          have hd : Below W1.heap.size W1 w2.drew := hb2.drew
          have ecx := (bd.cell (World.block_lt_of_cell? w _ ewx)).trans ewx
          have srd := srx.below bd
          have hRd : RowF 63 w2.drew W1.heap.size (.slice Ar ps.length cr) ps := hR2.below (Below.refl _ w2).drew
          have hFd := hF2.below (Below.refl _ w2).drew
          have hql : q.length ≤ 1000000 := Nat.le_trans HL.out.2.1 (by decide)
          clear hR2 hF2
          go_upto_region 9 with (fail)
          go_region_law (first
            | (refine step_append_q rfl (.tmp 23) (.tmp 32) rfl Tryz.underlying48 info_q (v := .slice Ar ps.length cr) (p := (dotq x (colq q j), .slice A6 (digs 10000 (dotq x (colq q j)).num.natAbs).length c6, .slice D6 (digs 10000 (dotq x (colq q j)).den).length e6)) (ps := ps) (by rfl) (by exact rC) (ad := ⟨w6.heap.size, 0, none⟩) (c := 1) (by rfl) (by exact cC0) (by exact cC1) (by exact cC2) rfl rfl HL8.out (by exact hszC) ?_; intro v7 w7 row7 bb7 HK7)
            | (go_simp; go_at_call 48; refine (rcol_any _ q j w _ st1 (by first | exact bd | assumption) HJ.out hql).mono ?_; rintro e w5 ⟨u5, ps5, rfl, hmap5, hrow5, hfar5, hold5, b5⟩; have ec5 := (b5.cell (World.block_lt_of_cell? _ _ ecx)).trans ecx; have srx5 := srd.below b5; have sc5 := hrow5.sl hfar5; rw [hmap5] at sc5; obtain ⟨Ac, cc, rfl, _, _⟩ := sc5.shape)
            | (go_simp; go_at_call 47; refine (rdot_new _ _ x (colq q j) m _ srx5 sc5 HCL.out HDB.out).mono ?_; rintro e w6 ⟨v6, rfl, k6, f6, b6⟩; obtain ⟨u6, t6, rfl, q6, d6⟩ := k6; obtain ⟨A6, c6, rfl, _⟩ := id q6; obtain ⟨D6, e6, rfl, _⟩ := id d6; have r6 := (hRd.below b5).below b6; have F6 := (hFd.below b5).below b6; obtain ⟨cC0, cC1, cC2⟩ := new_cells w6 63 (.bool (ngB (dotq x (colq q j)).num)) (.slice A6 (digs 10000 (dotq x (colq q j)).num.natAbs).length c6) (.slice D6 (digs 10000 (dotq x (colq q j)).den).length e6); have ba6 := below_alloc (w := w6) (Nat.le_refl _) (.cells #[.bool (ngB (dotq x (colq q j)).num), .slice A6 (digs 10000 (dotq x (colq q j)).num.natAbs).length c6, .slice D6 (digs 10000 (dotq x (colq q j)).den).length e6] 63); have rC := r6.below ba6; have hd6 := (hd.trans (b5.mono hd.size)).trans (b6.mono (Nat.le_trans hd.size b5.size)); have hszC := Nat.le_trans hd6.size ba6.size))
          all_goals
            have hW5 : W1.heap.size ≤ w5.heap.size := Nat.le_trans hd.size b5.size
            have EC : IsE .i64 10000 (w6.alloc (.cells #[.bool (ngB (dotq x (colq q j)).num), .slice A6 (digs 10000 (dotq x (colq q j)).num.natAbs).length c6, .slice D6 (digs 10000 (dotq x (colq q j)).den).length e6] 63)) ((dotq x (colq q j), .slice A6 (digs 10000 (dotq x (colq q j)).num.natAbs).length c6, .slice D6 (digs 10000 (dotq x (colq q j)).den).length e6) : Elt) := ⟨q6.below ba6, d6.below ba6⟩
            have F7 := (F6.below ba6).snoc HK7.out.1 EC ((f6 _ _ _ rfl).1.far (hRd.below b5).under) ((f6 _ _ _ rfl).2.far (hRd.below b5).under)
            have N7 := hN.snoc (p := (dotq x (colq q j), .slice A6 (digs 10000 (dotq x (colq q j)).num.natAbs).length c6, .slice D6 (digs 10000 (dotq x (colq q j)).den).length e6)) ((f6 _ _ _ rfl).1.mono hW5) ((f6 _ _ _ rfl).2.mono hW5)
            have HP7 : Hid ((ps ++ [((dotq x (colq q j), .slice A6 (digs 10000 (dotq x (colq q j)).num.natAbs).length c6, .slice D6 (digs 10000 (dotq x (colq q j)).den).length e6) : Elt)]).map (·.1) = (rowq x q (wideq q)).take (j + 1)) := by
              show _ = _
              rw [List.map_append, HP.out, HTJ.out]
              rfl
            have hb7 := (hd6.trans (ba6.mono hd6.size)).trans bb7
            have hsk : wideq q - (j + 1) < wideq q - j := by omega
            clear F6 r6 rC cC0 cC1 cC2 EC HK7 hRd hFd hN HP srd srx5 sc5 hrow5 hfar5 hold5 q6 d6 b5 b6 ba6 bb7 ecx ec5
            go_wp2
            go_roundw
            case rel => exact ⟨j + 1, _, by omega, HP7, row7, F7, N7, hb7, by go_num⟩
            case measure => simp [intOf]; omega
        · have hmap : ps.map (·.1) = rowq x q (wideq q) := by rw [HP.out, List.take_of_length_le (by rw [HRL.out]; omega)]
          have hR4 := hR.below hb2
          have hT4 := hT.below hb2
          have hu5 := hR.under
          have hS : FarS .i64 10000 w2 (.slice A5 n5 c5) (.slice Ar ps.length cr) (rowq x q (wideq q)) := ⟨ps, hmap, hR2.isVF, fun p hp => ⟨(hF2 p hp).1, (hN p hp).1.far hu5, (hN p hp).2.far hu5⟩, fun g hg => ⟨hR2.under g hg, fun e => by have h1 := hu5 g e; have h2 := hR2.base_le g hg; omega⟩⟩
          clear hR hT hF2 hR2 hN HP hmap
          have hbs := bb2.size
          go_wp2_with (at_builtin; refine wpList_append_w rfl (.tmp 34) (.tmp 36) rfl Tryz.underlying23 info_veq rfl hR4 rfl rfl HUL.out hbs ?_; intro v7 w7 row7 bb7 HK7)
          have T7 := hT4.snoc HK7.out hS
          rw [← HAT.out] at T7
          have bb8 := bb2.trans bb7
          clear hT4 hS hR4 HK7
          go_wp2
          refine ⟨⟨k + 1, _, by omega, row7, T7, bb8, by go_num⟩, ?_⟩
          simp [intOf]; omega
    · have hS := RowV.tab hR hT
      rw [List.take_of_length_le (by rw [HML.out]; omega)] at hS
      clear hR hT
      go_wp2
      go_ret
      exact ⟨_, rfl, hS, bb⟩
end Go.Proofs.YtekpnbgchoccmaaGreat.rat
