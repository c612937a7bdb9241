/- Package matrix: joined, turned: rows of the call's own that grow within a table. Condition: as each says.
Package matrix: turned. Condition: as each says.
Package matrix: product, Ident, Add, Apply, Turn. Condition: as each says.
Package matrix: Add, Mul. Condition: as each says.
Package matrix: Beside. Condition: as each says.
The chapter's example of layer 12; the statements' Among. Condition: as each says.
An append to a row of slices of the call's own: how what was there stays. Condition: as it says.
The document's Column. Condition: as each says.
The document's Turn and Mul. Condition: as each says.
An argument as a slice of slices of fractions. Condition: it can be read as data.
Few: two rows of fractions of the call's own out of an argument; tables of such rows. Condition: as each says.
Few of a table: two tables of the call's own out of an argument. Condition: as it says.
An append of a whole row of fractions to a row of the call's own. Condition: as each says. -/
import Derived.Test.YtekpnbgchoccmaaGreatKB4
import Derived.Deep.RegionHeld3
namespace Go.Proofs.YtekpnbgchoccmaaGreat.rat
open Go.RowKit Go.Proofs.YtekpnbgchoccmaaGreat.num Go.Proofs.YtekpnbgchoccmaaGreat.mem Go.Proofs.YtekpnbgchoccmaaGreat.nat Go.Proofs.YtekpnbgchoccmaaGreat.txt Go.Proofs.YtekpnbgchoccmaaGreat.str Go.Proofs.YtekpnbgchoccmaaGreat.flow Go.Proofs.YtekpnbgchoccmaaGreat.whl
set_option linter.unusedVariables false
set_option linter.unusedSimpArgs false
/-- The program's tables whose rows the call owns. -/
abbrev TabR (w : World) (base : Nat) (V : Value) (us : List Value) (pss : List (List Elt)) : Prop := TabO .u64 4294967296 46 w base 39 V us pss
def RetJoin (base g n c : Nat) (J : List (List Rat)) (w : World) (e : Ending) (w' : World) : Prop := ∃ us pss, e = .returned (.slice (some ⟨g, 0, none⟩) n c) ∧ TabR w' base (.slice (some ⟨g, 0, none⟩) n c) us pss ∧ valq pss = J ∧ us.length = n ∧ Below base w w'
set_option maxHeartbeats 3200000 in
set_option maxRecDepth 100000 in
theorem mjoined_any (g n c : Nat) (a1 : Value) (us : List Value) (pss : List (List Elt)) (t : List (List Rat)) (w W : World) (h0 : TabR W w.heap.size (.slice (some ⟨g, 0, none⟩) n c) us pss) (h1 : SlT .u64 4294967296 w a1 t) (hb : Below w.heap.size w W) (hu : us.length = n) (ht : t.length = n) (hgw : w.heap.size ≤ g)
    (hl : (∀ r ∈ valq pss, r.length ≤ 1000) ∧ (∀ r ∈ t, r.length ≤ 1000) ∧ lenT t 100000) :
    Calls Tryz.prog 43 #[.slice (some ⟨g, 0, none⟩) n c, a1] W (RetJoin w.heap.size g n c (joinq (valq pss) t) W) := by
  have st1 := h1
  obtain ⟨A1, c1, rfl, hc1, hm1⟩ := h1.shape
  unfold maxLen at hm1
  have HL := Lib.hid hl
  have HTN := Lib.hid ht
  have HUN := Lib.hid hu
  have HPT : Hid ((valq pss).length = t.length) := by show _ = _; rw [valq_len, ← h0.len, hu, ht]
  clear hl ht hu
  go_enter Tryz.func43, Tryz.ntmps43
  go_wp2
  go_loopw [9] (fun v9 wr => ∃ (k : Nat) (us' : List Value) (pss' : List (List Elt)), k ≤ t.length ∧ TabR wr w.heap.size (.slice (some ⟨g, 0, none⟩) n c) us' pss' ∧ Hid (valq pss' = jst (valq pss) t k) ∧ us'.length = n ∧ Below w.heap.size W wr ∧ v9 = .int .i64 (k : Int)) (fun v9 _ => t.length - (intOf v9).toNat)
  case atStart => exact ⟨0, us, pss, by omega, h0, by show _ = _; rw [jst_zero], HUN.out, Below.refl _ _, rfl⟩
  case round =>
    obtain ⟨k, us', pss', hk, hT, HJ, hul, hbW, rfl⟩ := hrel
    have HUL := Lib.hid hul
    clear hul
    have bb : Below w.heap.size w wr := hb.trans hbW
    by_cases hlt : k < t.length
    · have hnt : t ≠ [] := List.length_pos_iff.1 (by omega)
      obtain ⟨x, hx⟩ : ∃ x, t[k]? = some x := ⟨_, List.getElem?_eq_getElem hlt⟩
      have HX := Lib.hid hx
      have hxm := List.mem_of_getElem? hx
      obtain ⟨ad, rfl⟩ := st1.place hnt
      obtain ⟨Ax, cx, hi, ewx, srx⟩ := st1.at2 hx
      have ecx := (bb.cell (World.block_lt_of_cell? w _ ewx)).trans ewx
      have hkn : k < n := by have := HTN.out; omega
      obtain ⟨u, hu'⟩ : ∃ u, us'[k]? = some u := ⟨_, List.getElem?_eq_getElem (by have := HUL.out; omega)⟩
      obtain ⟨ps, hps⟩ : ∃ ps, pss'[k]? = some ps := ⟨_, List.getElem?_eq_getElem (by rw [← hT.len]; have := HUL.out; omega)⟩
      have HU := Lib.hid hu'
      have HPS := Lib.hid hps
      obtain ⟨p, hp⟩ : ∃ p, (valq pss)[k]? = some p := ⟨_, List.getElem?_eq_getElem (by rw [HPT.out]; exact hlt)⟩
      have HP : Hid (ps.map (·.1) = p) := by
        have h2 := valq_at hps
        rw [HJ.out, jst_at HPT.out hp] at h2
        exact (Option.some.inj h2).symm
      have HJ2 : Hid ((jst (valq pss) t k).set k (p ++ x) = jst (valq pss) t (k + 1)) := jst_set HPT.out hp hx
      have hpl : ps.length ≤ 1000 := by
        have h2 := congrArg List.length HP.out
        rw [List.length_map] at h2
        rw [h2]
        exact HL.out.1 p (List.mem_of_getElem? hp)
      have hown := hT.own k u ps hu' hps
      have lxl : x.length ≤ 1000 := HL.out.2.1 x hxm
      have lx : ∀ y ∈ x, lenQ y 100000 := HL.out.2.2 x hxm
      have hcell := hT.cell hu'
      obtain ⟨Au, cu, eu, hcu⟩ := hown.isVF
      subst eu
      have HT := Lib.hid hT
      clear hx hxm hu' hps hp hT
      go_wp2_with fail
      refine (mappended_any _ _ ps x w wr hown srx bb ⟨hpl, lxl, lx⟩).mono ?_
      rintro e w2 ⟨u2, new, rfl, hrow, hmap, hgr, hfar, hnew, b2⟩
      have hV := HT.out.mid (by decide) HU.out HPS.out hgr
      have hc2 := hV.cellAt HU.out
      have hf2 := hV.frozenAt k
      have hT2 := HT.out.put (by decide) HU.out HPS.out hrow hgr hfar (fun v hv q hq => by
        have h2 := HT.out.farNew ((hnew q hq).1)
        have h3 := HT.out.farNew ((hnew q hq).2)
        exact ⟨h2.1 v hv, h3.1 v hv⟩) (fun q hq => ⟨(HT.out.farNew ((hnew q hq).1)).2, (HT.out.farNew ((hnew q hq).2)).2⟩)
      obtain ⟨A2, c2, e2, hc2'⟩ := hrow.isVF
      rw [List.length_append] at e2
      subst e2
      have HJ3 : Hid (valq (pss'.set k (ps ++ new)) = jst (valq pss) t (k + 1)) := by
        show _ = _
        rw [valq_set, HJ.out, List.map_append, HP.out, hmap, HJ2.out]
      have hul2 : (us'.set k (.slice A2 (ps.length + new.length) c2)).length = n := by rw [List.length_set]; exact HUL.out
      have hb3 := (hbW.trans b2).setCell (p := ⟨g, k, none⟩) hgw (.slice A2 (ps.length + new.length) c2)
      have hsk : t.length - (k + 1) < t.length - k := by omega
      clear hrow hgr hfar hnew hV hown ecx hcell
      go_wp2
      go_roundw
      case rel => exact ⟨k + 1, _, _, by omega, hT2, HJ3, hul2, hb3, by go_num⟩
      case measure => simp [intOf]; omega
    · have HJE : Hid (valq pss' = joinq (valq pss) t) := by show _ = _; rw [HJ.out, jst_full HPT.out (by omega)]
      go_wp2
      go_ret
      exact ⟨us', pss', rfl, hT, HJE.out, HUL.out, hbW⟩
set_option maxHeartbeats 6400000 in
set_option maxRecDepth 100000 in
theorem mturned_any (a0 : Value) (t : List (List Rat)) (w : World) (h0 : SlT .u64 4294967296 w a0 t) (hl : t.length ≤ 1000 ∧ wideq t ≤ 1000 ∧ evenq t ∧ lenT t 100000) :
    Calls Tryz.prog 56 #[a0] w (RetSlT .u64 4294967296 (turnq t) w) := by
  have bb : Below w.heap.size w w := Below.refl _ _
  have st0 := h0
  obtain ⟨A0, c0, rfl, hc0, hm0⟩ := h0.shape
  unfold maxLen at hm0
  have HL := Lib.hid hl
  have ht2 : t.length ≤ 1000 := hl.1
  have hw2 : wideq t ≤ 1000 := hl.2.1
  clear hl
  go_enter Tryz.func56, Tryz.ntmps56
  go_upto_region 1 with (fail)
  have hsz0 := bb.size
  have sB := bb.size
  refine flowp 7 [Pd.eq (.slice A0 t.length c0), Pd.eq (.tuple #[.int .i64 ((t.length : Nat) : Int), .int .i64 ((wideq t : Nat) : Int)]), Pd.eq (.tuple #[.int .i64 ((t.length : Nat) : Int), .int .i64 ((wideq t : Nat) : Int)]), Pd.eq (.int .i64 ((t.length : Nat) : Int)), Pd.eq (.int .i64 ((wideq t : Nat) : Int)), Pd.eq (.int .i64 ((t.length : Nat) : Int)), Pd.eq (.int .i64 ((wideq t : Nat) : Int))] (by kernel_rfl) ?ob1 ?done1
  case ob1 =>
    refine And.intro (ob_move rfl (wt_none rfl) (ev_far rfl rfl) (fun _ _ h => h)) ?_
    refine And.intro (ob_call1 rfl Tryz.func8 (by kernel_rfl) (wt_none rfl) (ev_dep (j := 0) (by kernel_rfl) rfl rfl) (fun w2 u0 hb h0 => by obtain rfl := h0; exact (msize_any _ t _ ((st0.below bb).below hb)).mono fun e w3 h => RetV.pd h)) ?_
    refine And.intro (ob_move rfl (wt_none rfl) (ev_dep (j := 1) (by kernel_rfl) rfl rfl) (fun _ _ h => h)) ?_
    refine And.intro (ob_extract rfl (wt_none rfl) (ev_dep (j := 2) (by kernel_rfl) rfl rfl) (fun w2 u hu => by obtain rfl := hu; exact ⟨_, rfl, rfl⟩)) ?_
    refine And.intro (ob_extract rfl (wt_none rfl) (ev_dep (j := 2) (by kernel_rfl) rfl rfl) (fun w2 u hu => by obtain rfl := hu; exact ⟨_, rfl, rfl⟩)) ?_
    refine And.intro (ob_assign rfl (wt_none rfl) (ev_dep (j := 3) (by kernel_rfl) rfl rfl) (fun _ _ h => h)) ?_
    refine And.intro (ob_assign rfl (wt_none rfl) (ev_dep (j := 4) (by kernel_rfl) rfl rfl) (fun _ _ h => h)) ?_
    trivial
  case done1 =>
    refine fun w11 hb11 v0 h0 v1 h1 v2 h2 v3 h3 v4 h4 v5 h5 v6 h6 b hbf => ?_
    obtain rfl := h0; obtain rfl := h1; obtain rfl := h2; obtain rfl := h3; obtain rfl := h4; obtain rfl := h5; obtain rfl := h6
    simp only [Act.put, List.setIfInBounds_toArray, List.set_cons_zero, List.set_cons_succ] at hbf
    subst hbf
    replace bb := bb.trans (hb11.mono bb.size)
    have hsz11 := bb.size
    refine ops_done ?_
    have sB := bb.size
    go_upto_region 2 with (fail)
    refine flowp 3 [Pd.eq (.int .i64 ((wideq t : Nat) : Int)), pbar (wideq t) 39 w11.heap.size, pbar (wideq t) 39 w11.heap.size] (by kernel_rfl) ?ob2 ?done2
    case ob2 =>
      refine And.intro (ob_move rfl (wt_none rfl) (ev_far rfl rfl) (fun _ _ h => h)) ?_
      refine And.intro (ob_call1 rfl Tryz.func32 (by kernel_rfl) (wt_none rfl) (ev_dep (j := 0) (by kernel_rfl) rfl rfl) (fun w2 u0 hb h0 => by obtain rfl := h0; exact (mbare_any _ ((wideq t)) _ rfl (by omega)).mono fun e w3 h => RetBar.pd h hb.size)) ?_
      refine And.intro (ob_assign rfl (wt_none rfl) (ev_dep (j := 1) (by kernel_rfl) rfl rfl) (fun _ _ h => h)) ?_
      trivial
    case done2 =>
      refine fun w12 hb12 v0 h0 v1 h1 v2 h2 b hbf => ?_
      obtain rfl := h0
      have q1 := h1
      have q2 := h2
      simp only [Act.put, List.setIfInBounds_toArray, List.set_cons_zero, List.set_cons_succ] at hbf
      subst hbf
      replace bb := bb.trans (hb12.mono bb.size)
      have hsz12 := bb.size
      refine ops_done ?_
      obtain ⟨g, rfl, TB, hg⟩ := q2
      have hgw : w.heap.size ≤ g := by omega
      have hT0 : TabR w12 w.heap.size (.slice (some ⟨g, 0, none⟩) (wideq t) (wideq t)) (List.replicate (wideq t) (.slice none 0 0)) (List.replicate (wideq t) []) := TB.owned hgw (by omega)
      clear TB
      go_wp2
      go_loopw [19] (fun v19 wr => ∃ (k : Nat) (us : List Value) (pss : List (List Elt)), k ≤ t.length ∧ TabR wr w.heap.size (.slice (some ⟨g, 0, none⟩) (wideq t) (wideq t)) us pss ∧ Hid (valq pss = tst t k 0) ∧ Hid (us.length = wideq t) ∧ Below w.heap.size w wr ∧ v19 = .int .i64 (k : Int)) (fun v19 _ => t.length - (intOf v19).toNat)
      case atStart => exact ⟨0, _, _, by omega, hT0, by show _ = _; rw [valq_nil, tst_zero], by show _ = _; simp, bb, rfl⟩
      case round =>
        obtain ⟨k, us, pss, hk, hT, HV, HUL, hbw, rfl⟩ := hrel
        clear hT0 bb
        have bb := hbw
        clear hbw
        have hszr := bb.size
        by_cases hlt : k < t.length
        · have hnt : t ≠ [] := List.length_pos_iff.1 (by omega)
          obtain ⟨x, hx⟩ : ∃ x, t[k]? = some x := ⟨_, List.getElem?_eq_getElem hlt⟩
          have HX := Lib.hid hx
          have hxm := List.mem_of_getElem? hx
          have HXL : Hid (x.length = wideq t) := HL.out.2.2.1 x hxm
          have lx : ∀ y ∈ x, lenQ y 100000 := HL.out.2.2.2 x hxm
          obtain ⟨ad0, rfl⟩ := st0.place hnt
          obtain ⟨Arx, crx, hix, ewx, srx⟩ := st0.at2 hx
          clear hx hxm
          have ecx := (bb.cell (World.block_lt_of_cell? w _ ewx)).trans ewx
          have bl : Below wr.heap.size wr wr := Below.refl _ _
          have sB := bb.size
          go_upto_region 5 with (fail)
          refine flowp 3 [Pd.eq (.pointer (some (ad0.add k))), Pd.eq (.slice Arx x.length crx), Pd.eq (.slice Arx x.length crx)] (by kernel_rfl) ?ob3 ?done3
          case ob3 =>
            refine And.intro (ob_indexAddr rfl (wt_none rfl) (ev_far rfl rfl) (ev_far rfl rfl) (fun _ _ _ hx hy => ⟨_, by rw [hx, hy]; exact index1_any (k := k) Tryz.underlying22 (by kernel_rfl) ad0 hlt _, rfl⟩)) ?_
            refine And.intro (ob_load rfl (wt_none rfl) (ev_dep (j := 0) (by kernel_rfl) rfl rfl) (fun w2 hb => run_load1 Tryz.underlying39 rfl ((hb.cell (World.block_lt_of_cell? wr _ ecx)).trans ecx)) (fun _ _ => rfl)) ?_
            refine And.intro (ob_assign rfl (wt_none rfl) (ev_dep (j := 1) (by kernel_rfl) rfl rfl) (fun _ _ h => h)) ?_
            trivial
          case done3 =>
            refine fun w14 hb14 v0 h0 v1 h1 v2 h2 b hbf => ?_
            obtain rfl := h0; obtain rfl := h1; obtain rfl := h2
            simp only [Act.put, List.setIfInBounds_toArray, List.set_cons_zero, List.set_cons_succ] at hbf
            subst hbf
            replace bb := bb.trans (hb14.mono bb.size)
            have hsz14 := bb.size
            replace bl := bl.trans (hb14.mono bl.size)
            refine ops_done ?_
            clear ecx
            have sB := bb.size
            go_upto_region 6 with (fail)
            refine flowp 3 [Pd.eq (.slice Arx x.length crx), Pd.eq (.int .i64 ((x.length : Nat) : Int)), Pd.eq (.int .i64 0)] (by kernel_rfl) ?ob4 ?done4
            case ob4 =>
              refine And.intro (ob_move rfl (wt_none rfl) (ev_far rfl rfl) (fun _ _ h => h)) ?_
              refine And.intro (ob_len rfl (wt_none rfl) (ev_dep (j := 0) (by kernel_rfl) rfl rfl) (fun _ _ hx => ⟨_, by rw [hx]; exact len_slice Tryz.underlying39 _ _ _ _, rfl⟩)) ?_
              refine And.intro (ob_move rfl (wt_none rfl) (ev_const _) (fun _ _ h => h)) ?_
              trivial
            case done4 =>
              refine fun w15 hb15 v0 h0 v1 h1 v2 h2 b hbf => ?_
              obtain rfl := h0; obtain rfl := h1; obtain rfl := h2
              simp only [Act.put, List.setIfInBounds_toArray, List.set_cons_zero, List.set_cons_succ] at hbf
              subst hbf
              replace bb := bb.trans (hb15.mono bb.size)
              have hsz15 := bb.size
              replace bl := bl.trans (hb15.mono bl.size)
              refine ops_done ?_
              have hT1 := hT.below bl
              go_wp2
              go_loopw [25] (fun v25 wr => ∃ (i : Nat) (us' : List Value) (pss' : List (List Elt)), i ≤ x.length ∧ TabR wr w.heap.size (.slice (some ⟨g, 0, none⟩) (wideq t) (wideq t)) us' pss' ∧ Hid (valq pss' = tst t k i) ∧ Hid (us'.length = wideq t) ∧ Below w.heap.size w wr ∧ v25 = .int .i64 (i : Int)) (fun v25 _ => x.length - (intOf v25).toNat)
              case atStart => exact ⟨0, _, _, by omega, hT1, HV, HUL, bb, rfl⟩
              case round =>
                obtain ⟨i, us', pss', hi, hTi, HVi, HULi, hbw, rfl⟩ := hrel
                clear hT1 hT bb bl HV HUL
                have bb := hbw
                clear hbw
                have hszi := bb.size
                by_cases hlti : i < x.length
                · have bl : Below wr.heap.size wr wr := Below.refl _ _
                  have hxne : x ≠ [] := List.length_pos_iff.1 (by omega)
                  have sl9 := srx
                  obtain ⟨y, hq9_⟩ : ∃ y, x[i]? = some y := ⟨_, List.getElem?_eq_getElem hlti⟩
                  obtain ⟨g9_, o9_, ue9, te9, hA9_, _, e90, e91, e92, es9, ed9⟩ := (sl9.below bb).at_ hq9_
                  subst hA9_
                  have HQ9 := Lib.hid hq9_
                  clear hq9_
                  obtain ⟨Ae9, ce9, rfl, _⟩ := id es9
                  obtain ⟨De9, ee9, rfl, _⟩ := id ed9
                  have ke9 : IsQ wr (.agg #[.bool (ngB y.num), .slice Ae9 (digs 4294967296 y.num.natAbs).length ce9, .slice De9 (digs 4294967296 y.den).length ee9]) y := ⟨_, _, rfl, es9, ed9⟩
                  have sB := bb.size
                  go_upto_region 8 with (fail)
                  refine flowp 5 [Pd.eq (.int .i64 (i : Int)), Pd.eq (.pointer (some ⟨g9_, o9_ + i * 3, none⟩)), Pd.eq (.agg #[.bool (ngB y.num), .slice Ae9 (digs 4294967296 y.num.natAbs).length ce9, .slice De9 (digs 4294967296 y.den).length ee9]), pn 46 #[.bool false, .slice none 0 0, .slice none 0 0] wr.heap.size, Pd.eq (.int .i64 (i : Int))] (by kernel_rfl) ?ob5 ?done5
                  case ob5 =>
                    refine And.intro (ob_move rfl (wt_none rfl) (ev_far rfl rfl) (fun _ _ h => h)) ?_
                    refine And.intro (ob_indexAddr rfl (wt_none rfl) (ev_far rfl rfl) (ev_far rfl rfl) (fun _ _ _ hx hy => ⟨_, by rw [hx, hy]; exact index3 Tryz.underlying39 (by kernel_rfl) hlti _, rfl⟩)) ?_
                    refine And.intro (ob_load rfl (wt_none rfl) (ev_dep (j := 1) (by kernel_rfl) rfl rfl) (fun w2 hb => load3 Tryz.underlying46 rfl (by kernel_rfl) ((hb.cell (World.block_lt_of_cell? wr _ e90)).trans e90) ((hb.cell (World.block_lt_of_cell? wr _ e91)).trans e91) ((hb.cell (World.block_lt_of_cell? wr _ e92)).trans e92)) (fun _ _ => rfl)) ?_
                    refine And.intro (ob_alloc (z := .agg #[.bool false, .slice none 0 0, .slice none 0 0]) rfl rfl (fun _ => by kernel_rfl) (fun _ _ hB h => ⟨_, rfl, hB, h⟩)) ?_
                    refine And.intro (ob_assign rfl (wt_none rfl) (ev_dep (j := 0) (by kernel_rfl) rfl rfl) (fun _ _ h => h)) ?_
                    trivial
                  case done5 =>
                    refine fun w17 hb17 v0 h0 v1 h1 v2 h2 v3 h3 d3 v4 h4 b hbf => ?_
                    obtain rfl := h0; obtain rfl := h1; obtain rfl := h2; obtain rfl := h4
                    obtain ⟨g5_3, rfl, hg3, B3⟩ := h3
                    simp only [Act.put, List.setIfInBounds_toArray, List.set_cons_zero, List.set_cons_succ] at hbf
                    subst hbf
                    replace es9 := es9.below hb17
                    replace ed9 := ed9.below hb17
                    replace bb := bb.trans (hb17.mono bb.size)
                    have hsz17 := bb.size
                    replace bl := bl.trans (hb17.mono bl.size)
                    have BA9 := B3
                    have q2 := es9
                    have d2 := ed9
                    refine ops_store (i := 5) rfl rfl rfl rfl rfl rfl (cells := [.bool (ngB (y).num), .slice Ae9 (digs 4294967296 (y).num.natAbs).length ce9, .slice De9 (digs 4294967296 (y).den).length ee9]) rfl BA9 rfl (by kernel_rfl) (one3 rfl rfl rfl) fun w18 hg18 BN18 => ?_
                    replace q2 := off q2 BA9 no_ints3 hg18
                    replace d2 := off d2 BA9 no_ints3 hg18
                    replace bb := bb.trans ((Below.refl _ _).grown hg18 bb.size (fun g hg => by injection hg with hg; omega))
                    have hsz18 := bb.size
                    have Be9 : Blk w18 (g5_3) _ _ := BN18
                    have ke9s := q2
                    have ke9d := d2
                    have ke9z : IsZ w18 (.agg #[.bool (ngB (y).num), .slice Ae9 (digs 4294967296 (y).num.natAbs).length ce9]) ((y).num) := ⟨_, rfl, ke9s⟩
                    have ke9 : IsQ w18 (.agg #[.bool (ngB (y).num), .slice Ae9 (digs 4294967296 (y).num.natAbs).length ce9, .slice De9 (digs 4294967296 (y).den).length ee9]) (y) := ⟨_, _, rfl, ke9s, ke9d⟩
                    refine ops_done ?_
                    replace bl := bl.trans ((Below.refl _ _).grown hg18 bl.size (fun g hg => by injection hg with hg; omega))
                    have ly : lenQ y 100000 := lx y (List.mem_of_getElem? HQ9.out)
                    have hiw : i < wideq t := by have := HXL.out; omega
                    obtain ⟨u, hu⟩ : ∃ u, us'[i]? = some u := ⟨_, List.getElem?_eq_getElem (by have := HULi.out; omega)⟩
                    obtain ⟨ps, hps⟩ : ∃ ps, pss'[i]? = some ps := ⟨_, List.getElem?_eq_getElem (by rw [← hTi.len]; have := HULi.out; omega)⟩
                    have HU := Lib.hid hu
                    have HPS := Lib.hid hps
                    have HP : Hid (ps.map (·.1) = colq (t.take k) i) := by
                      have h2 := valq_at hps
                      rw [HVi.out, tst_self hiw] at h2
                      exact (Option.some.inj h2).symm
                    have HST : Hid ((tst t k i).set i (colq (t.take k) i ++ [y]) = tst t k (i + 1)) := tst_set hiw HX.out HQ9.out
                    have HL8 : Hid (ps.length ≤ 1000000000) := by
                      have h2 := congrArg List.length HP.out
                      rw [List.length_map, colq_len, List.length_take] at h2
                      show _ ≤ _
                      omega
                    have bd := bl.drew
                    have TD := hTi.below bd
                    obtain ⟨Au, cu, eu, _⟩ := (TD.own i u ps hu hps).isVF
                    subst eu
                    have cD := TD.cell hu
                    have fD := TD.frozen i
                    have TDH := Lib.hid TD
                    have K_ := Lib.hid ke9
                    have Be9d : Blk w18.drew _ _ _ := Be9.drew
                    obtain ⟨x90, x91, x92, _, _, _⟩ := three Be9d
                    have hszD : w.heap.size ≤ w18.drew.heap.size := by have := bb.size; exact this
                    have ks_ := (ke9s).below (Below.refl _ w18).drew
                    have kd_ := (ke9d).below (Below.refl _ w18).drew
                    clear hu hps TD hTi
                    go_upto_region 9 with (fail)
                    go_region_law (first
                      | (refine step_append_q rfl (.tmp 35) (.tmp 38) rfl Tryz.underlying39 info_rat (v := .slice Au ps.length cu) (p := (y, .slice A6 (digs 4294967296 (y).num.natAbs).length c6, .slice D6 (digs 4294967296 (y).den).length e6)) (ps := ps) (by rfl) (by exact rC) (ad := ⟨w6.heap.size, 0, none⟩) (c := 1) (by rfl) (by exact cC0) (by exact cC1) (by exact cC2) rfl rfl HL8.out (by exact hszC) ?_; intro v7 w7 row7 bb7 HK7; have hV7 := TC.mid (by decide) HU.out HPS.out HK7.out; have c7 := hV7.cellAt HU.out; have f7 := hV7.frozenAt i; obtain ⟨A7, c7_, e7, _⟩ := row7.isVF; rw [List.length_append] at e7; subst e7)
                      | (go_simp; go_at_call 55; refine (mcopied_any _ y _ ⟨_, _, rfl, (by exact ks_), (by exact kd_)⟩ ly).mono ?_; rintro e w6 ⟨v6, rfl, k6, f6, b6⟩; have T6 := TDH.out.below b6; have cell6 := T6.cell HU.out; obtain ⟨u6, t6, rfl, q6, d6⟩ := k6; obtain ⟨A6, c6, rfl, _⟩ := id q6; obtain ⟨D6, e6, rfl, _⟩ := id d6; obtain ⟨cC0, cC1, cC2⟩ := new_cells w6 46 (.bool (ngB (y).num)) (.slice A6 (digs 4294967296 (y).num.natAbs).length c6) (.slice D6 (digs 4294967296 (y).den).length e6); have ba6 := below_alloc (w := w6) (Nat.le_refl _) (.cells #[.bool (ngB (y).num), .slice A6 (digs 4294967296 (y).num.natAbs).length c6, .slice D6 (digs 4294967296 (y).den).length e6] 46); have TC := T6.below ba6; have rC := TC.own i _ ps HU.out HPS.out; have hszC : w.heap.size ≤ (w6.alloc (.cells #[.bool (ngB (y).num), .slice A6 (digs 4294967296 (y).num.natAbs).length c6, .slice D6 (digs 4294967296 (y).den).length e6] 46)).heap.size := Nat.le_trans (Nat.le_trans hszD b6.size) ba6.size; have cellC := TC.cell HU.out))
                    all_goals
                      have fr1 := TDH.out.farNew (f6 _ _ _ rfl).1
                      have fr2 := TDH.out.farNew (f6 _ _ _ rfl).2
                      have hum := List.mem_of_getElem? HU.out
                      have EC : IsE .u64 4294967296 (w6.alloc (.cells #[.bool (ngB (y).num), .slice A6 (digs 4294967296 (y).num.natAbs).length c6, .slice D6 (digs 4294967296 (y).den).length e6] 46)) ((y, .slice A6 (digs 4294967296 (y).num.natAbs).length c6, .slice D6 (digs 4294967296 (y).den).length e6) : Elt) := ⟨q6.below ba6, d6.below ba6⟩
                      have F7 := (FarF.nil .u64 4294967296 (w6.alloc (.cells #[.bool (ngB (y).num), .slice A6 (digs 4294967296 (y).num.natAbs).length c6, .slice D6 (digs 4294967296 (y).den).length e6] 46)) (.slice Au ps.length cu)).snoc HK7.out.1 EC (fr1.1 _ hum) (fr2.1 _ hum)
                      have T8 := TC.put (by decide) HU.out HPS.out row7 HK7.out F7 (fun v hv q hq => by rw [List.mem_singleton.1 hq]; exact ⟨fr1.1 v hv, fr2.1 v hv⟩) (fun q hq => by rw [List.mem_singleton.1 hq]; exact ⟨fr1.2, fr2.2⟩)
                      have HV8 : Hid (valq (pss'.set i (ps ++ [((y, .slice A6 (digs 4294967296 (y).num.natAbs).length c6, .slice D6 (digs 4294967296 (y).den).length e6) : Elt)])) = tst t k (i + 1)) := by
                        show _ = _
                        rw [valq_set, HVi.out, List.map_append, HP.out]
                        exact HST.out
                      have b8 := ((((bb.drew).trans (b6.mono hszD)).trans (ba6.mono (Nat.le_trans hszD b6.size))).trans bb7).setCell (p := ⟨g, i, none⟩) hgw (.slice A7 (ps.length + [((y, .slice A6 (digs 4294967296 (y).num.natAbs).length c6, .slice D6 (digs 4294967296 (y).den).length e6) : Elt)].length) c7_)
                      have HUL8 : Hid ((us'.set i (.slice A7 (ps.length + [((y, .slice A6 (digs 4294967296 (y).num.natAbs).length c6, .slice D6 (digs 4294967296 (y).den).length e6) : Elt)].length) c7_)).length = wideq t) := by show _ = _; rw [List.length_set]; exact HULi.out
                      have hsk : x.length - (i + 1) < x.length - i := by omega
                      clear TC T6 row7 HK7 hV7 rC cC0 cC1 cC2 cellC cell6 F7 EC ks_ kd_ b6 ba6 bb7 q6 d6
                      go_wp2
                      go_roundw
                      case rel => exact ⟨i + 1, _, _, by omega, T8, HV8, HUL8, b8, by go_num⟩
                      case measure => simp [intOf]; omega
                · obtain rfl : i = x.length := by omega
                  have HV9 : Hid (valq pss' = tst t (k + 1) 0) := by show _ = _; rw [HVi.out, HXL.out, tst_next]
                  clear HVi
                  go_wp2
                  refine ⟨⟨k + 1, us', pss', by omega, hTi, HV9, HULi, bb, by go_num⟩, ?_⟩
                  simp [intOf]; omega
        · obtain rfl : k = t.length := by omega
          have hS := hT.slT
          rw [HV.out, tst_end] at hS
          clear hT HV
          go_wp2
          go_ret
          exact ⟨_, rfl, hS, bb⟩
theorem heap_setCell {w : World} {g i : Nat} {u : Value} {cs : Array Value} {e : TypeId} (h : w.heap[g]? = some (.cells cs e (0, 0))) : (w.setCell ⟨g, i, none⟩ u).heap[g]? = some (.cells (cs.setIfInBounds i u) e (0, 0)) := by
  simp [World.setCell, Array.getElem?_modify, h]
theorem TabS.stored {k : IntKind} {B : Nat} {w : World} {g : Nat} {TS : TypeId} {us : List Value} {t : List (List Rat)} (h : TabS k B w g TS us t) (i : Nat) {u : Value} {r : List Rat} (hu : SlF k B w u r) : TabS k B (w.setCell ⟨g, i, none⟩ u) g TS (us.set i u) (t.set i r) := h.put (grown_set w g i u) (heap_setCell h.1.1) hu
theorem TabS.cellAt {k : IntKind} {B : Nat} {w : World} {g : Nat} {TS : TypeId} {us : List Value} {t : List (List Rat)} (h : TabS k B w g TS us t) {i : Nat} (hi : i < t.length) : ∃ u, w.cell? ⟨g, i, none⟩ = some u := by
  have hu : us[i]? = some (us[i]'(by rw [h.2.1]; exact hi)) := List.getElem?_eq_getElem _
  have := h.1.cell hu
  rw [addr_zero] at this
  exact ⟨_, this⟩
theorem TabS.frozenAt {k : IntKind} {B : Nat} {w : World} {g : Nat} {TS : TypeId} {us : List Value} {t : List (List Rat)} (h : TabS k B w g TS us t) (i : Nat) : w.frozen? ⟨g, i, none⟩ = false := h.1.1.frozen i
theorem partq_len {α : Type} {T : List (List α)} {k n : Nat} (h : T.length = n) (hk : k ≤ n) : (partq T k n).length = n := by
  unfold partq
  rw [List.length_append, List.length_take, List.length_replicate, h]; omega
theorem retTE_no (n : Int) (hn : n ≠ 0) {w w' : World} (hb : Below w.heap.size w w') : RetTE [] n w (.returned (.tuple #[.slice none 0 0, .int .i64 n])) w' := ⟨_, rfl, by rw [if_neg hn]; exact slT_nil _ _ _, hb⟩
set_option maxHeartbeats 3200000 in
set_option maxRecDepth 100000 in
theorem mproduct_any (a0 a1 : Value) (p q : List (List Rat)) (m n : Nat) (w : World) (h0 : SlT .u64 4294967296 w a0 p) (h1 : SlT .u64 4294967296 w a1 q) (he : ∀ r ∈ p, r.length = q.length)
    (hl : p.length ≤ 1000 ∧ q.length ≤ 1000 ∧ wideq q ≤ 1000 ∧ evenq q ∧ lenT p m ∧ lenT q n ∧ 1 ≤ n ∧ n ≤ 900 ∧ (n + m + 1) * q.length + 1 ≤ 900) :
    Calls Tryz.prog 44 #[a0, a1] w (RetSlT .u64 4294967296 (mulq p q) w) := by
  have st0 := h0
  obtain ⟨A0, c0, rfl, hc0, hm0⟩ := h0.shape
  unfold maxLen at hm0
  have st1 := h1
  obtain ⟨A1, c1, rfl, hc1, hm1⟩ := h1.shape
  unfold maxLen at hm1
  have HL := Lib.hid hl
  have HE := Lib.hid he
  have hpl : p.length ≤ 1000 := hl.1
  have HTQ : Hid (q.length ≤ 1000 ∧ wideq q ≤ 1000 ∧ evenq q ∧ lenT q 100000) := ⟨hl.2.1, hl.2.2.1, hl.2.2.2.1, hl.2.2.2.2.2.1.mono (Nat.le_trans hl.2.2.2.2.2.2.2.1 (by decide))⟩
  have HTT : Hid ((mulq p q).length = p.length) := mulq_len p q
  have HD : Hid ((turnq q).length ≤ 1000 ∧ lenT (turnq q) n) := ⟨by rw [turnq_len]; exact hl.2.2.1, lenT_turn hl.2.2.2.2.2.1 hl.2.2.2.2.2.2.1⟩
  clear hl he
  go_enter Tryz.func44, Tryz.ntmps44
  go_wp2_with fail
  refine (mturned_any _ q _ st1 HTQ.out).mono ?_
  rintro e w2 ⟨C, rfl, SC, b2⟩
  obtain ⟨AC, cC, rfl, hcC, hmC⟩ := SC.shape
  go_wp2_with fail
  refine (mbare_any _ p.length _ rfl (by omega)).mono ?_
  rintro e w3 ⟨g, rfl, TB, hg, b3⟩
  have TS0 : TabS .u64 4294967296 w3 g 39 (List.replicate p.length (.slice none 0 0)) (partq (mulq p q) 0 p.length) := by rw [partq_zero]; exact TB.bare
  clear TB
  go_wp2
  go_loopw [16] (fun v16 wr => ∃ (k : Nat) (us : List Value), k ≤ p.length ∧ TabS .u64 4294967296 wr g 39 us (partq (mulq p q) k p.length) ∧ Below w2.heap.size w2 wr ∧ v16 = .int .i64 (k : Int)) (fun v16 _ => p.length - (intOf v16).toNat)
  case atStart => exact ⟨0, _, by omega, TS0, b3, rfl⟩
  case round =>
    obtain ⟨k, us, hk, TS, hb2, rfl⟩ := hrel
    clear TS0 b3
    have bb : Below w.heap.size w wr := b2.trans (hb2.mono b2.size)
    by_cases hlt : k < p.length
    · have hnp : p ≠ [] := List.length_pos_iff.1 (by omega)
      obtain ⟨x, hx⟩ : ∃ x, p[k]? = some x := ⟨_, List.getElem?_eq_getElem hlt⟩
      have hxm := List.mem_of_getElem? hx
      obtain ⟨ad, rfl⟩ := st0.place hnp
      obtain ⟨Ax, cx, hi, ewx, srx⟩ := st0.at2 hx
      have ecx := (bb.cell (World.block_lt_of_cell? w _ ewx)).trans ewx
      have HXL : Hid (x.length = q.length) := HE.out x hxm
      have HAT : Hid ((mulq p q)[k]? = some (dotsq (turnq q) x)) := by show _ = _; rw [dotsq_turn]; exact mulq_at hx
      have SCr := SC.below hb2
      have HDX : Hid ((∀ r ∈ turnq q, r.length = x.length) ∧ (turnq q).length ≤ 1000 ∧ x.length ≤ 1000 ∧ lenT (turnq q) n ∧ (∀ y ∈ x, lenQ y m) ∧ (n + m + 1) * x.length + 1 ≤ 900) := ⟨fun r hr => by rw [turnq_rows r hr, HXL.out], HD.out.1, by rw [HXL.out]; exact HL.out.2.1, HD.out.2, HL.out.2.2.2.2.1 x hxm, by rw [HXL.out]; exact HL.out.2.2.2.2.2.2.2.2⟩
      have hsx := srx.below bb
      clear hx hxm ewx srx
      go_wp2_with fail
      refine (mdots_any _ _ (turnq q) x n m _ SCr hsx HDX.out.1 HDX.out.2).mono ?_
      rintro e w4 ⟨R, rfl, sR, b4⟩
      obtain ⟨AR, cR, rfl, _, _⟩ := sR.shape
      have TS4 := TS.below b4
      obtain ⟨u0, c4⟩ := TS4.cellAt (i := k) (by rw [partq_len HTT.out hk]; exact hlt)
      have f4 := TS4.frozenAt k
      have TS5 := TS4.stored k sR
      rw [partq_set HTT.out HAT.out] at TS5
      have hb5 := (hb2.trans (b4.mono hb2.size)).setCell (p := ⟨g, k, none⟩) hg (.slice AR (dotsq (turnq q) x).length cR)
      have hsk : p.length - (k + 1) < p.length - k := by omega
      clear TS TS4 sR ecx SCr hsx
      go_wp2
      go_roundw
      case rel => exact ⟨k + 1, _, by omega, TS5, hb5, by go_num⟩
      case measure => simp [intOf]; omega
    · obtain rfl : k = p.length := by omega
      rw [partq_full HTT.out] at TS
      have hS := TS.slT HTT.out (by omega)
      clear TS
      go_wp2
      go_ret
      exact ⟨_, rfl, hS, bb⟩
set_option maxHeartbeats 3200000 in
set_option maxRecDepth 100000 in
theorem mident_ok (n : Int) (d : Nat) (w : World) (hn : n = (d : Int)) (hd : d ≤ 200) : Calls Tryz.prog 9 #[.int .i64 n] w (RetTE (identq d) 0 w) := by
  subst hn
  have h1 : ¬ (d : Int) < 0 := by omega
  have h2 : ¬ (200 : Int) < (d : Int) := by omega
  have HTT : Hid ((identq d).length = d) := identq_len d
  go_enter Tryz.func9, Tryz.ntmps9
  go_wp2_with fail
  refine (mbare_any _ d _ rfl (by omega)).mono ?_
  rintro e w3 ⟨g, rfl, TB, hg, b3⟩
  have TS0 : TabS .u64 4294967296 w3 g 39 (List.replicate d (.slice none 0 0)) (partq (identq d) 0 d) := by rw [partq_zero]; exact TB.bare
  clear TB
  go_wp2
  go_loopw [16] (fun v16 wr => ∃ (k : Nat) (us : List Value), k ≤ d ∧ TabS .u64 4294967296 wr g 39 us (partq (identq d) k d) ∧ Below w.heap.size w wr ∧ v16 = .int .i64 (k : Int)) (fun v16 _ => d - (intOf v16).toNat)
  case atStart => exact ⟨0, _, by omega, TS0, b3, rfl⟩
  case round =>
    obtain ⟨k, us, hk, TS, bb, rfl⟩ := hrel
    clear TS0 b3
    by_cases hlt : k < d
    · have HAT : Hid ((identq d)[k]? = some (unitq d k)) := identq_at hlt
      go_wp2_with fail
      refine (funit_ok _ _ d k _ rfl rfl hd hlt).mono ?_
      rintro e w4 ⟨R, rfl, sR, b4⟩
      rw [if_pos rfl] at sR
      obtain ⟨AR, cR, rfl, _, _⟩ := sR.shape
      have TS4 := TS.below b4
      obtain ⟨u0, c4⟩ := TS4.cellAt (i := k) (by rw [partq_len HTT.out hk]; exact hlt)
      have f4 := TS4.frozenAt k
      have TS5 := TS4.stored k sR
      rw [partq_set HTT.out HAT.out] at TS5
      have hb5 := (bb.trans (b4.mono bb.size)).setCell (p := ⟨g, k, none⟩) hg (.slice AR (unitq d k).length cR)
      have hsk : d - (k + 1) < d - k := by omega
      clear TS TS4 sR
      go_wp2
      go_roundw
      case rel => exact ⟨k + 1, _, by omega, TS5, hb5, by go_num⟩
      case measure => simp [intOf]; omega
    · obtain rfl : k = d := by omega
      rw [partq_full HTT.out] at TS
      have hS := TS.slT HTT.out (by omega)
      clear TS
      go_wp2
      go_ret2
      exact ⟨_, rfl, by rw [if_pos rfl]; exact hS, bb⟩
set_option maxHeartbeats 3200000 in
set_option maxRecDepth 100000 in
theorem mturn_any (a0 : Value) (t : List (List Rat)) (w : World) (h0 : SlT .u64 4294967296 w a0 t) (hl : lenT t 100000) :
    Calls Tryz.prog 28 #[a0] w (fun e w' => (mayq t ∧ RetTE (turnq t) 0 w e w') ∨ (¬ mayq t ∧ RetTE [] 8 w e w')) := by
  have st0 := h0
  obtain ⟨A0, c0, rfl, hc0, hm0⟩ := h0.shape
  have HL := Lib.hid hl
  clear hl
  go_enter Tryz.func28, Tryz.ntmps28
  by_cases h : mayq t
  · have HM := Lib.hid h
    go_wp2_with fail
    refine (mmay_any _ t true _ st0 (decide_eq_true HM.out).symm).mono ?_
    rintro e w2 ⟨rfl, b2⟩
    have st2 := st0.below b2
    clear h
    go_wp2_with fail
    refine (mturned_any _ t _ st2 ⟨Nat.le_trans HM.out.1 (by decide), Nat.le_trans HM.out.2.1 (by decide), HM.out.2.2, HL.out⟩).mono ?_
    rintro e w3 ⟨V, rfl, sV, b3⟩
    go_wp2
    go_ret2
    exact .inl ⟨HM.out, _, rfl, by rw [if_pos rfl]; exact sV, b2.trans (b3.mono b2.size)⟩
  · have HM := Lib.hid h
    go_wp2_with fail
    refine (mmay_any _ t false _ st0 (decide_eq_false HM.out).symm).mono ?_
    rintro e w2 ⟨rfl, b2⟩
    clear h
    go_wp2
    go_ret2
    exact .inr ⟨HM.out, retTE_no 8 (by decide) b2⟩
theorem ListT.tail {w : World} {ad : Addr} {n c : Nat} {ts : List (List (List Rat))} (h : ListT w (.slice (some ad) n c) ts) (hne : ts ≠ []) : ListT w (.slice (if c = 1 then some ad else some (ad.add 1)) (n - 1) (c - 1)) ts.tail := by
  obtain ⟨us, h1, ⟨A, c', e, hc, hcell⟩, h3, h4⟩ := h
  injection e with e1 e2 e3
  subst e1; subst e2; subst e3
  have hpos : 0 < ts.length := List.length_pos_iff.2 hne
  refine ⟨us.tail, by rw [List.length_tail, List.length_tail, h1], ?_, by rw [List.length_tail]; omega, fun i u t hu ht => ?_⟩
  · by_cases h2 : c = 1
    · have : us.tail = [] := List.length_eq_zero_iff.1 (by rw [List.length_tail]; omega)
      rw [this]
      exact ⟨_, _, by rw [show us.length - 1 = 0 by omega]; rfl, by simp, fun i u hu => by simp at hu⟩
    · rw [if_neg h2]
      refine ⟨some (ad.add 1), c - 1, by rw [List.length_tail], by rw [List.length_tail]; omega, fun i u hu => ?_⟩
      rw [List.getElem?_tail] at hu
      obtain ⟨ad', ha, hc2⟩ := hcell (i + 1) u hu
      injection ha with ha; subst ha
      refine ⟨_, rfl, ?_⟩
      have e : (ad.add 1).add i = ad.add (i + 1) := by
        unfold Addr.add
        by_cases hi : i = 0
        · simp [hi]
        · simp [hi]; omega
      rw [e]; exact hc2
  · rw [List.getElem?_tail] at hu ht
    exact h4 (i + 1) u t hu ht
/-- Does the table at this place fit: it may be, and it has as many rows as the one ahead has places. -/
def okAt (ts : List (List (List Rat))) (i : Nat) (t : List (List Rat)) : Prop := mayq t ∧ ∀ (s : List (List Rat)), 0 < i → ts[i - 1]? = some s → wideq s = t.length
/-- How long the numbers of a product of so many are. -/
def bnd : Nat → Nat
  | 0 => 10
  | n + 1 => (bnd n + bnd n + 1) * 4 + 1
theorem bnd_one (n : Nat) : 10 ≤ bnd n := by
  induction n with
  | zero => exact Nat.le_refl _
  | succ n ih => show 10 ≤ (bnd n + bnd n + 1) * 4 + 1; omega
theorem foldl_take_snoc {α β : Type} (f : α → β → α) (a : α) {l : List β} {j : Nat} {x : β} (h : l[j]? = some x) : (l.take (j + 1)).foldl f a = f ((l.take j).foldl f a) x := by
  rw [List.take_add_one, h]
  simp [List.foldl_append]
set_option maxHeartbeats 6400000 in
set_option maxRecDepth 100000 in
theorem mmul_any (a0 : Value) (ts : List (List (List Rat))) (w : World) (h0 : ListT w a0 ts) (hl : ts.length ≤ 3 ∧ ∀ t ∈ ts, t.length ≤ 4 ∧ (∀ r ∈ t, r.length ≤ 4) ∧ lenT t 10) :
    Calls Tryz.prog 20 #[a0] w (fun e w' => (fitsq ts ∧ RetTE (prodT ts) 0 w e w') ∨ (¬ fitsq ts ∧ RetTE [] 8 w e w')) := by
  have st0 := h0
  obtain ⟨A0, c0, rfl, hc0⟩ := h0.shape
  have HL := Lib.hid hl
  have hl3 : ts.length ≤ 3 := hl.1
  clear hl
  go_enter Tryz.func20, Tryz.ntmps20
  by_cases hn : ts = []
  · subst hn
    go_wp2
    go_ret2
    exact .inr ⟨fun h => h.1 rfl, retTE_no 8 (by decide) (Below.refl _ _)⟩
  have hpos : 0 < ts.length := List.length_pos_iff.2 hn
  have hne0 : ¬ ((ts.length : Nat) : Int) = 0 := by omega
  have hneb : (((ts.length : Nat) : Int) == 0) = false := by rw [beq_eq_false_iff_ne]; omega
  obtain ⟨ad, rfl⟩ := st0.place hn
  go_wp2
  go_loopw [14] (fun v14 wr => ∃ k : Nat, k ≤ ts.length ∧ Hid (∀ (i : Nat) (t : List (List Rat)), i < k → ts[i]? = some t → okAt ts i t) ∧ Below w.heap.size w wr ∧ v14 = .int .i64 (k : Int)) (fun v14 _ => ts.length - (intOf v14).toNat)
  case atStart => exact ⟨0, by omega, (by show ∀ i, _; intro i t hi; omega), Below.refl _ _, rfl⟩
  case round =>
    obtain ⟨k, hk, HA, bb, rfl⟩ := hrel
    by_cases hlt : k < ts.length
    · obtain ⟨t, ht⟩ : ∃ t, ts[k]? = some t := ⟨_, List.getElem?_eq_getElem hlt⟩
      have HT := Lib.hid ht
      obtain ⟨At, ct, hit, ect, stt⟩ := (st0.below bb).at2 ht
      clear ht
      by_cases hm : mayq t
      · have HM := Lib.hid hm
        clear hm
        go_wp2_with fail
        refine (mmay_any _ t true _ stt (decide_eq_true HM.out).symm).mono ?_
        rintro e w2 ⟨rfl, b2⟩
        have bb2 := bb.trans (b2.mono bb.size)
        have stt2 := stt.below b2
        clear ect stt b2
        by_cases hk0 : 0 < k
        · obtain ⟨j, rfl⟩ : ∃ j, k = j + 1 := ⟨k - 1, by omega⟩
          obtain ⟨s, hs⟩ : ∃ s, ts[j]? = some s := ⟨_, List.getElem?_eq_getElem (by omega)⟩
          have HS := Lib.hid hs
          obtain ⟨As, cs, his, ecs, sts⟩ := (st0.below bb2).at2 hs
          have hgt : (0 : Int) < ((j + 1 : Nat) : Int) := by omega
          clear hs
          go_wp2_with fail
          by_cases hf : wideq s = t.length
          · have HF := Lib.hid hf
            clear hf
            refine (mfit_any _ _ s t true _ sts stt2 (decide_eq_true HF.out).symm).mono ?_
            rintro e w3 ⟨rfl, b3⟩
            have bb3 := bb2.trans (b3.mono bb2.size)
            have HA2 : Hid (∀ (i : Nat) (t : List (List Rat)), i < j + 1 + 1 → ts[i]? = some t → okAt ts i t) := by
              show ∀ i, _
              intro i t' hi h'
              by_cases e : i = j + 1
              · subst e
                rw [HT.out] at h'
                injection h' with h'
                subst h'
                refine ⟨HM.out, fun s' _ hs' => ?_⟩
                rw [Nat.add_sub_cancel, HS.out] at hs'
                injection hs' with hs'
                subst hs'
                exact HF.out
              · exact HA.out i t' (by omega) h'
            have hsk : ts.length - (j + 1 + 1) < ts.length - (j + 1) := by omega
            clear ecs sts stt2 b3 HA
            go_wp2
            go_roundw
            case rel => exact ⟨j + 1 + 1, by omega, HA2, bb3, by go_num⟩
            case measure => simp [intOf]; omega
          · have HF := Lib.hid hf
            clear hf
            refine (mfit_any _ _ s t false _ sts stt2 (decide_eq_false HF.out).symm).mono ?_
            rintro e w3 ⟨rfl, b3⟩
            have bb3 := bb2.trans (b3.mono bb2.size)
            have HN : Hid (¬ fitsq ts) := fun h => HF.out ((h.2 (j + 1) t HT.out).2 s (by omega) (by rw [Nat.add_sub_cancel]; exact HS.out))
            clear ecs sts stt2 b3 HA
            go_wp2
            go_ret2
            exact .inr ⟨HN.out, retTE_no 8 (by decide) bb3⟩
        · have hgt : ¬ (0 : Int) < (k : Int) := by omega
          have HA2 : Hid (∀ (i : Nat) (t : List (List Rat)), i < k + 1 → ts[i]? = some t → okAt ts i t) := by
            show ∀ i, _
            intro i t' hi h'
            obtain rfl : i = k := by omega
            rw [HT.out] at h'
            injection h' with h'
            subst h'
            exact ⟨HM.out, fun s' h0' _ => absurd h0' hk0⟩
          have hsk : ts.length - (k + 1) < ts.length - k := by omega
          clear HA stt2
          go_wp2
          go_roundw
          case rel => exact ⟨k + 1, by omega, HA2, bb2, by go_num⟩
          case measure => simp [intOf]; omega
      · have HM := Lib.hid hm
        clear hm
        go_wp2_with fail
        refine (mmay_any _ t false _ stt (decide_eq_false HM.out).symm).mono ?_
        rintro e w2 ⟨rfl, b2⟩
        have bb2 := bb.trans (b2.mono bb.size)
        have HN : Hid (¬ fitsq ts) := fun h => HM.out (h.2 k t HT.out).1
        go_wp2
        go_ret2
        exact .inr ⟨HN.out, retTE_no 8 (by decide) bb2⟩
    · obtain rfl : k = ts.length := by omega
      have HF : Hid (fitsq ts) := ⟨hn, fun i t ht => HA.out i t (List.getElem?_eq_some_iff.1 ht).1 ht⟩
      obtain ⟨t0, ht0⟩ : ∃ t0, ts[0]? = some t0 := ⟨_, List.getElem?_eq_getElem hpos⟩
      have HT0 := Lib.hid ht0
      have bd := bb.drew
      obtain ⟨At, ct, hit, ecd, std⟩ := (st0.below bd).at2 ht0
      have HB0 : Hid (t0.length ≤ 4 ∧ (∀ r ∈ t0, r.length ≤ 4) ∧ lenT t0 10) := HL.out.2 t0 (List.mem_of_getElem? ht0)
      have ht04 : t0.length ≤ 4 := HB0.out.1
      have ead : ad.add 0 = ad := by simp [Addr.add]
      rw [ead] at ecd
      have ecz : wr.cell? ad = some (.slice At t0.length ct) := ecd
      clear ht0 HA
      go_upto_region 9 with (fail)
      go_region_law (first
        | (go_simp; go_at_call 32; refine (mbare_any _ t0.length _ rfl (by omega)).mono ?_; rintro e w4 ⟨g, rfl, TB, hg, b4⟩; have TO : TabR w4 wr.drew.heap.size _ _ _ := TB.owned hg (by omega); have ec4 := (b4.cell (World.block_lt_of_cell? _ _ ecd)).trans ecd)
        | (go_simp; go_at_call 43; refine (mjoined_any g t0.length t0.length _ _ _ t0 wr.drew w4 TO std b4 (by simp) rfl hg ⟨fun r hr => by rw [valq_nil] at hr; rw [(List.mem_replicate.1 hr).2]; exact Nat.zero_le _, fun r hr => Nat.le_trans (HB0.out.2.1 r hr) (by decide), HB0.out.2.2.mono (by decide)⟩).mono ?_; rintro e w5 ⟨us5, pss5, rfl, T5, V5, L5, b5⟩))
      all_goals
        have SA : SlT .u64 4294967296 w5 (.slice (some ⟨g, 0, none⟩) t0.length t0.length) t0 := by
          have h := T5.slT
          rw [V5, valq_nil, joinq_nil] at h
          exact h
        have bb5 : Below w.heap.size w w5 := bd.trans ((b4.trans b5).mono bd.size)
        obtain ⟨A', hA', stT⟩ : ∃ A' : Addr, (if c0 = 1 then some ad else some ({ block := ad.block, off := ad.off + 1 } : Addr)) = some A' ∧ ListT w (.slice (some A') (ts.length - 1) (c0 - 1)) ts.tail := by
          have h := st0.tail hn
          by_cases hc1 : c0 = 1
          · rw [if_pos hc1] at h
            exact ⟨ad, by rw [if_pos hc1], h⟩
          · rw [if_neg hc1] at h
            exact ⟨_, by rw [if_neg hc1]; simp [Addr.add], h⟩
        have h1n : (1 : Int) ≤ ((ts.length : Nat) : Int) := by omega
        have HTL : Hid (ts.tail.length = ts.length - 1) := List.length_tail
        clear T5 V5 L5 TB TO b4 b5 std ecz ecd bb bd
        go_wp2
        go_loopw [6, 49] (fun v6 v49 wr => ∃ (j : Nat) (ans : List (List Rat)), j ≤ ts.length - 1 ∧ SlT .u64 4294967296 wr v6 ans ∧ Hid (ans = (ts.tail.take j).foldl mulq t0) ∧ Hid ((∀ s, ts[j]? = some s → ∀ r ∈ ans, r.length = wideq s) ∧ ans.length ≤ 4 ∧ lenT ans (bnd j)) ∧ Below w.heap.size w wr ∧ v49 = .int .i64 (j : Int)) (fun _ v49 _ => (ts.length - 1) - (intOf v49).toNat)
        case atStart => exact ⟨0, t0, by omega, SA, by show _ = _; rw [List.take_zero]; rfl, ⟨fun s hs r hr => by rw [HT0.out] at hs; injection hs with hs; subst hs; exact ((HF.out.2 0 t0 HT0.out).1.2.2 r hr), HB0.out.1, HB0.out.2.2⟩, bb5, rfl⟩
        case round =>
          clear SA bb5
          obtain ⟨j, ans, hj, SA, HAN, HAB, bb, rfl⟩ := hrel
          obtain ⟨AA, cA, eA, _, _⟩ := SA.shape
          subst eA
          by_cases hlt2 : j < ts.length - 1
          · obtain ⟨t, ht⟩ : ∃ t, ts.tail[j]? = some t := ⟨_, List.getElem?_eq_getElem (by rw [HTL.out]; exact hlt2)⟩
            have HT := Lib.hid ht
            obtain ⟨At1, ct1, hit1, ect, stt⟩ := (stT.below bb).at2 ht
            have ht1 : ts[j + 1]? = some t := by rw [List.getElem?_tail] at ht; exact ht
            obtain ⟨s, hs⟩ : ∃ s, ts[j]? = some s := ⟨_, List.getElem?_eq_getElem (by omega)⟩
            have hok := HF.out.2 (j + 1) t ht1
            have htm := List.mem_of_getElem? ht1
            have hws : wideq s = t.length := hok.2 s (by omega) (by rw [Nat.add_sub_cancel]; exact hs)
            have hj1 : bnd j ≤ 85 := by
              rcases (by omega : j = 0 ∨ j = 1) with rfl | rfl
              · decide
              · decide
            have htl : t.length ≤ 4 := (HL.out.2 t htm).1
            have hrows : ∀ r ∈ ans, r.length = t.length := fun r hr => by rw [HAB.out.1 s hs r hr, hws]
            have hmul : (10 + bnd j + 1) * t.length + 1 ≤ 900 := by
              have := Nat.mul_le_mul (show 10 + bnd j + 1 ≤ 96 by omega) htl
              omega
            have HPR : Hid ((∀ r ∈ ans, r.length = t.length) ∧ ans.length ≤ 1000 ∧ t.length ≤ 1000 ∧ wideq t ≤ 1000 ∧ evenq t ∧ lenT ans (bnd j) ∧ lenT t 10 ∧ 1 ≤ 10 ∧ 10 ≤ 900 ∧ (10 + bnd j + 1) * t.length + 1 ≤ 900) := ⟨hrows, by have := HAB.out.2.1; omega, by omega, Nat.le_trans hok.1.2.1 (by decide), hok.1.2.2, HAB.out.2.2, (HL.out.2 t htm).2.2, by decide, by decide, hmul⟩
            have HAN2 : Hid (mulq ans t = (ts.tail.take (j + 1)).foldl mulq t0) := by show _ = _; rw [foldl_take_snoc mulq t0 HT.out, HAN.out]
            have HAB2 : Hid ((∀ s, ts[j + 1]? = some s → ∀ r ∈ mulq ans t, r.length = wideq s) ∧ (mulq ans t).length ≤ 4 ∧ lenT (mulq ans t) (bnd (j + 1))) := by
              refine ⟨fun s' hs' r hr => ?_, by rw [mulq_len]; exact HAB.out.2.1, ?_⟩
              · rw [ht1] at hs'
                injection hs' with hs'
                subst hs'
                exact mulq_rows r hr
              · exact lenT_mul HAB.out.2.2 ((HL.out.2 t htm).2.2.mono (bnd_one j)) (Nat.le_trans (by decide) (bnd_one j)) hrows htl
            clear ht ht1 hs hok htm hws hrows hmul
            go_wp2_with fail
            refine (mproduct_any _ _ ans t (bnd j) 10 _ SA stt HPR.out.1 HPR.out.2).mono ?_
            rintro e w7 ⟨V7, rfl, S7, b7⟩
            have bb7 := bb.trans (b7.mono bb.size)
            have hsk : ts.length - 1 - (j + 1) < ts.length - 1 - j := by omega
            obtain ⟨A7, c7, e7, _, _⟩ := S7.shape
            subst e7
            clear SA stt ect HAN HAB
            go_wp2
            go_roundw
            case rel => exact ⟨j + 1, mulq ans t, by omega, S7, HAN2, HAB2, bb7, by go_num⟩
            case measure => simp [intOf]; omega
          · obtain rfl : j = ts.length - 1 := by omega
            have HE : Hid (ans = prodT ts) := by
              show _ = _
              rw [HAN.out, List.take_of_length_le (by rw [HTL.out]; exact Nat.le_refl _), prodT]
              congr 1
              cases ts with
              | nil => exact absurd rfl hn
              | cons a l => have h := HT0.out; simpa using h.symm
            have hS : SlT .u64 4294967296 wr (.slice AA ans.length cA) (prodT ts) := by rw [← HE.out]; exact SA
            clear SA HAN HAB
            go_wp2
            go_ret2
            exact .inl ⟨HF.out, _, rfl, by rw [if_pos rfl]; exact hS, bb⟩
/-- May all lie side by side: each may be, all with as many rows. -/
def besides (n : Nat) (ts : List (List (List Rat))) : Prop := ∀ t ∈ ts, mayq t ∧ t.length = n
theorem besideT_snoc {n j : Nat} {ts : List (List (List Rat))} {t : List (List Rat)} (h : ts[j]? = some t) : besideT n (ts.take (j + 1)) = joinq (besideT n (ts.take j)) t := foldl_take_snoc joinq _ h
theorem mem_joinq {α : Type} {P t : List (List α)} {r : List α} (h : r ∈ joinq P t) : ∃ p ∈ P, ∃ q ∈ t, r = p ++ q := by
  obtain ⟨i, hi⟩ := List.mem_iff_getElem?.1 h
  unfold joinq at hi
  rw [List.getElem?_zipWith] at hi
  cases hp : P[i]? with
  | none => rw [hp] at hi; cases hi
  | some p =>
    cases hq : t[i]? with
    | none => rw [hp, hq] at hi; cases hi
    | some q =>
      rw [hp, hq] at hi
      obtain rfl : p ++ q = r := by simpa using hi
      exact ⟨p, List.mem_of_getElem? hp, q, List.mem_of_getElem? hq, rfl⟩
theorem sum_take_snoc {l : List Nat} {j x : Nat} (h : l[j]? = some x) : (l.take (j + 1)).sum = (l.take j).sum + x := by
  rw [List.take_add_one, h]; simp
theorem sum_take_le : ∀ (l : List Nat) (j : Nat), (l.take j).sum ≤ l.sum
  | [], j => by simp
  | x :: l, 0 => by simp
  | x :: l, j + 1 => by have := sum_take_le l j; simp; omega
set_option maxHeartbeats 3200000 in
set_option maxRecDepth 100000 in
theorem mbeside_none (w : World) : Calls Tryz.prog 29 #[.slice none 0 0] w (RetTE [] 0 w) := by
  go_enter Tryz.func29, Tryz.ntmps29
  go_wp2
  go_loopw [4, 14] (fun v4 v14 wr => Below w.heap.size w wr ∧ v4 = .int .i64 0 ∧ v14 = .int .i64 0) (fun _ v14 _ => 0)
  case atStart => exact ⟨Below.refl _ _, rfl, rfl⟩
  case round =>
    obtain ⟨bb, rfl, rfl⟩ := hrel
    go_wp2
    go_ret2
    exact ⟨_, rfl, slT_nil _ _ _, bb⟩
set_option maxHeartbeats 6400000 in
set_option maxRecDepth 100000 in
theorem mbeside_any (a0 : Value) (ts : List (List (List Rat))) (t0 : List (List Rat)) (w : World) (h0 : ListT w a0 ts) (ht0 : ts[0]? = some t0) (hl : ts.length ≤ 3 ∧ (ts.map wideq).sum ≤ 200 ∧ (∀ t ∈ ts, lenT t 100000) ∧ t0.length ≤ 200) :
    Calls Tryz.prog 29 #[a0] w (fun e w' => (besides t0.length ts ∧ RetTE (besideT t0.length ts) 0 w e w') ∨ (¬ besides t0.length ts ∧ RetTE [] 8 w e w')) := by
  have st0 := h0
  obtain ⟨A0, c0, rfl, hc0⟩ := h0.shape
  have HL := Lib.hid hl
  have hl3 : ts.length ≤ 3 := hl.1
  have hpos : 0 < ts.length := (List.getElem?_eq_some_iff.1 ht0).1
  have hn : ts ≠ [] := List.length_pos_iff.1 hpos
  have hneb : (((ts.length : Nat) : Int) == 0) = false := by rw [beq_eq_false_iff_ne]; omega
  have hne0 : ¬ ((ts.length : Nat) : Int) = 0 := by omega
  have ht02 : t0.length ≤ 200 := hl.2.2.2
  obtain ⟨ad, rfl⟩ := st0.place hn
  obtain ⟨At0, ct0, hit0, ew0, stt0⟩ := st0.at2 ht0
  have ead : ad.add 0 = ad := by simp [Addr.add]
  rw [ead] at ew0
  have HT0 := Lib.hid ht0
  clear hl ht0
  go_enter Tryz.func29, Tryz.ntmps29
  go_wp2
  go_loopw [4, 14] (fun v4 v14 wr => ∃ k S : Nat, k ≤ ts.length ∧ Hid (∀ (i : Nat) (t : List (List Rat)), i < k → ts[i]? = some t → mayq t ∧ t.length = t0.length) ∧ Hid (S = ((ts.map wideq).take k).sum) ∧ Below w.heap.size w wr ∧ v4 = .int .i64 (S : Int) ∧ v14 = .int .i64 (k : Int)) (fun _ v14 _ => ts.length - (intOf v14).toNat)
  case atStart => exact ⟨0, 0, by omega, (by show ∀ i, _; intro i t hi; omega), rfl, Below.refl _ _, rfl, rfl⟩
  case round =>
    obtain ⟨k, S, hk, HA, HS, bb, rfl, rfl⟩ := hrel
    have ec0 := (bb.cell (World.block_lt_of_cell? w _ ew0)).trans ew0
    by_cases hlt : k < ts.length
    · obtain ⟨t, ht⟩ : ∃ t, ts[k]? = some t := ⟨_, List.getElem?_eq_getElem hlt⟩
      have HT := Lib.hid ht
      obtain ⟨At, ct, hit, ect, stt⟩ := (st0.below bb).at2 ht
      have hS2 : ((ts.map wideq).take (k + 1)).sum = S + wideq t := by rw [sum_take_snoc (x := wideq t) (by rw [List.getElem?_map, ht]; rfl), HS.out]
      have hSle : S + wideq t ≤ 200 := by
        have h1 := sum_take_le (ts.map wideq) (k + 1)
        have h2 := HL.out.2.1
        omega
      have HS2 := Lib.hid hS2.symm
      clear ht hS2
      go_wp2_with fail
      refine (msize_any _ t _ stt).mono ?_
      rintro e w2 ⟨rfl, b2⟩
      have bb2 := bb.trans (b2.mono bb.size)
      have stt2 := stt.below b2
      have hov : (S : Int) + ((wideq t : Nat) : Int) ≤ 200 := by omega
      have hov2 : ¬ (200 : Int) < (S : Int) + ((wideq t : Nat) : Int) := by omega
      clear ect stt b2
      by_cases hm : mayq t
      · have HM := Lib.hid hm
        clear hm
        go_wp2_with fail
        refine (mmay_any _ t true _ stt2 (decide_eq_true HM.out).symm).mono ?_
        rintro e w3 ⟨rfl, b3⟩
        have bb3 := bb2.trans (b3.mono bb2.size)
        have ec3 := (bb3.cell (World.block_lt_of_cell? w _ ew0)).trans ew0
        clear stt2 b3
        by_cases hle : t.length = t0.length
        · have hne : (((t.length : Nat) : Int) != ((t0.length : Nat) : Int)) = false := by rw [bne_eq_false_iff_eq, hle]
          have hne' : ((t.length : Nat) : Int) = ((t0.length : Nat) : Int) := by rw [hle]
          have HLE := Lib.hid hle
          have HA2 : Hid (∀ (i : Nat) (t : List (List Rat)), i < k + 1 → ts[i]? = some t → mayq t ∧ t.length = t0.length) := by
            show ∀ i, _
            intro i t' hi h'
            by_cases e : i = k
            · subst e
              rw [HT.out] at h'
              injection h' with h'
              subst h'
              exact ⟨HM.out, HLE.out⟩
            · exact HA.out i t' (by omega) h'
          have hsk : ts.length - (k + 1) < ts.length - k := by omega
          clear hle HA ec0
          go_wp2
          go_roundw
          case rel => exact ⟨k + 1, S + wideq t, by omega, HA2, HS2, bb3, by go_num, by go_num⟩
          case measure => simp [intOf]; omega
        · have hne : (((t.length : Nat) : Int) != ((t0.length : Nat) : Int)) = true := by rw [bne_iff_ne]; omega
          have hne' : ¬ ((t.length : Nat) : Int) = ((t0.length : Nat) : Int) := by omega
          have HN : Hid (¬ besides t0.length ts) := fun h => hle (h t (List.mem_of_getElem? HT.out)).2
          clear hle HA ec0
          go_wp2
          go_ret2
          exact .inr ⟨HN.out, retTE_no 8 (by decide) bb3⟩
      · have HM := Lib.hid hm
        clear hm
        go_wp2_with fail
        refine (mmay_any _ t false _ stt2 (decide_eq_false HM.out).symm).mono ?_
        rintro e w3 ⟨rfl, b3⟩
        have bb3 := bb2.trans (b3.mono bb2.size)
        have HN : Hid (¬ besides t0.length ts) := fun h => HM.out (h t (List.mem_of_getElem? HT.out)).1
        clear HA ec0
        go_wp2
        go_ret2
        exact .inr ⟨HN.out, retTE_no 8 (by decide) bb3⟩
    · obtain rfl : k = ts.length := by omega
      have HB : Hid (besides t0.length ts) := fun t ht => by
        obtain ⟨i, hi⟩ := List.mem_iff_getElem?.1 ht
        exact HA.out i t (List.getElem?_eq_some_iff.1 hi).1 hi
      clear HA HS
      go_wp2_with fail
      refine (mbare_any _ t0.length _ rfl (by omega)).mono ?_
      rintro e w4 ⟨g, rfl, TB, hg, b4⟩
      have bb4 := bb.trans (b4.mono bb.size)
      have hgw : w.heap.size ≤ g := Nat.le_trans bb.size hg
      have hT0 : TabR w4 w.heap.size _ _ _ := TB.owned hgw (by omega)
      have HV0 : Hid (valq (List.replicate t0.length ([] : List Elt)) = besideT t0.length (ts.take 0)) := by show _ = _; rw [valq_nil]; rfl
      have HU0 : Hid ((List.replicate t0.length (Value.slice none 0 0)).length = t0.length) := by show _ = _; simp
      have HR0 : Hid (∀ r ∈ besideT t0.length (ts.take 0), r.length ≤ 200 * 0) := by
        show ∀ r ∈ _, _
        intro r hr
        rw [(List.mem_replicate.1 (show r ∈ List.replicate t0.length [] from hr)).2]
        exact Nat.le_refl _
      clear TB ec0 bb b4
      go_wp2
      go_loopw [9, 52] (fun v9 v52 wr => ∃ (k : Nat) (us : List Value) (pss : List (List Elt)), k ≤ ts.length ∧ TabR wr w.heap.size (.slice (some ⟨g, 0, none⟩) t0.length t0.length) us pss ∧ Hid (valq pss = besideT t0.length (ts.take k)) ∧ Hid (us.length = t0.length) ∧ Hid (∀ r ∈ besideT t0.length (ts.take k), r.length ≤ 200 * k) ∧ Below w.heap.size w wr ∧ v9 = .slice (some ⟨g, 0, none⟩) t0.length t0.length ∧ v52 = .int .i64 (k : Int)) (fun _ v52 _ => ts.length - (intOf v52).toNat)
      case atStart => exact ⟨0, _, _, by omega, hT0, HV0, HU0, HR0, bb4, rfl, rfl⟩
      case round =>
        clear hT0 HV0 HU0 HR0 bb4
        obtain ⟨k, us, pss, hk, hT, HV, HU, HR, bb, rfl, rfl⟩ := hrel
        by_cases hlt : k < ts.length
        · obtain ⟨t, ht⟩ : ∃ t, ts[k]? = some t := ⟨_, List.getElem?_eq_getElem hlt⟩
          have HT := Lib.hid ht
          obtain ⟨At, ct, hit, ewt, stt⟩ := st0.at2 ht
          have ect := (bb.cell (World.block_lt_of_cell? w _ ewt)).trans ewt
          have htm := List.mem_of_getElem? ht
          have HTB : Hid (mayq t ∧ t.length = t0.length) := HB.out t htm
          have HW : Hid (∀ r ∈ t, r.length ≤ 200) := fun r hr => by rw [HTB.out.1.2.2 r hr]; exact HTB.out.1.2.1
          have HLT : Hid (lenT t 100000) := HL.out.2.2.1 t htm
          have HV2 : Hid (joinq (valq pss) t = besideT t0.length (ts.take (k + 1))) := by show _ = _; rw [besideT_snoc ht, HV.out]
          have HR2 : Hid (∀ r ∈ besideT t0.length (ts.take (k + 1)), r.length ≤ 200 * (k + 1)) := by
            show ∀ r ∈ _, _
            intro r hr
            rw [besideT_snoc ht] at hr
            obtain ⟨p, hp, q, hq, rfl⟩ := mem_joinq hr
            have h1 := HR.out p hp
            have h2 := HW.out q hq
            rw [List.length_append]; omega
          clear ht htm ewt
          go_wp2_with fail
          refine (mjoined_any g t0.length t0.length _ us pss t w _ hT stt bb HU.out HTB.out.2 hgw ⟨fun r hr => by rw [HV.out] at hr; have := HR.out r hr; omega, fun r hr => Nat.le_trans (HW.out r hr) (by decide), HLT.out⟩).mono ?_
          rintro e w7 ⟨us7, pss7, rfl, T7, V7, L7, b7⟩
          have bb7 := bb.trans b7
          have HV7 : Hid (valq pss7 = besideT t0.length (ts.take (k + 1))) := by show _ = _; rw [V7, HV2.out]
          have HU7 := Lib.hid L7
          have hsk : ts.length - (k + 1) < ts.length - k := by omega
          clear hT HV HU HR stt ect V7 L7 b7
          go_wp2
          go_roundw
          case rel => exact ⟨k + 1, us7, pss7, by omega, T7, HV7, HU7, HR2, bb7, rfl, by go_num⟩
          case measure => simp [intOf]; omega
        · obtain rfl : k = ts.length := by omega
          have hS := hT.slT
          rw [HV.out, List.take_of_length_le (Nat.le_refl _)] at hS
          clear hT HV HR
          go_wp2
          go_ret2
          exact .inl ⟨HB.out, _, rfl, by rw [if_pos rfl]; exact hS, bb⟩
theorem slT_two {k : IntKind} {B : Nat} {w : World} {v u0 u1 : Value} {r0 r1 : List Rat} (h : IsV w v [u0, u1]) (h0 : SlF k B w u0 r0) (h1 : SlF k B w u1 r1) (hc : ∀ A n c, v = .slice A n c → c ≤ maxLen) : SlT k B w v [r0, r1] := by
  obtain ⟨A, c, e, h2, h3⟩ := h
  refine ⟨[u0, u1], rfl, ⟨A, c, e, h2, hc _ _ _ e, h3⟩, fun i x y hx hy => ?_⟩
  rcases i with _ | _ | i
  · obtain rfl : u0 = x := by simpa using hx
    obtain rfl : r0 = y := by simpa using hy
    exact h0
  · obtain rfl : u1 = x := by simpa using hx
    obtain rfl : r1 = y := by simpa using hy
    exact h1
  · simp at hx
/-- Two rows of two, written out. -/
theorem tab22 (w : World) {a b c d : Rat} {ua ta ub tb uc tc ud td : Value} (ha : IsS w .u64 ua (digs 4294967296 a.num.natAbs)) (ha2 : IsS w .u64 ta (digs 4294967296 a.den)) (hb : IsS w .u64 ub (digs 4294967296 b.num.natAbs)) (hb2 : IsS w .u64 tb (digs 4294967296 b.den)) (hc : IsS w .u64 uc (digs 4294967296 c.num.natAbs)) (hc2 : IsS w .u64 tc (digs 4294967296 c.den)) (hd : IsS w .u64 ud (digs 4294967296 d.num.natAbs)) (hd2 : IsS w .u64 td (digs 4294967296 d.den)) :
    SlT .u64 4294967296 (((w.alloc (.cells #[.bool (ngB a.num), ua, ta, .bool (ngB b.num), ub, tb] 46)).alloc (.cells #[.bool (ngB c.num), uc, tc, .bool (ngB d.num), ud, td] 46)).alloc (.cells #[.slice (some ⟨w.heap.size, 0, none⟩) 2 2, .slice (some ⟨w.heap.size + 1, 0, none⟩) 2 2] 39)) (.slice (some ⟨w.heap.size + 1 + 1, 0, none⟩) 2 2) [[a, b], [c, d]] ∧ Below w.heap.size w (((w.alloc (.cells #[.bool (ngB a.num), ua, ta, .bool (ngB b.num), ub, tb] 46)).alloc (.cells #[.bool (ngB c.num), uc, tc, .bool (ngB d.num), ud, td] 46)).alloc (.cells #[.slice (some ⟨w.heap.size, 0, none⟩) 2 2, .slice (some ⟨w.heap.size + 1, 0, none⟩) 2 2] 39)) := by
  have s1 := slF_lit2 w 46 ha ha2 hb hb2
  have b1 := below_alloc (w := w) (Nat.le_refl _) (.cells #[.bool (ngB a.num), ua, ta, .bool (ngB b.num), ub, tb] 46)
  have hs1 : (w.alloc (.cells #[.bool (ngB a.num), ua, ta, .bool (ngB b.num), ub, tb] 46)).heap.size = w.heap.size + 1 := by simp
  obtain ⟨w1, hw1⟩ : ∃ w1, w1 = w.alloc (.cells #[.bool (ngB a.num), ua, ta, .bool (ngB b.num), ub, tb] 46) := ⟨_, rfl⟩
  rw [← hw1] at s1 b1 hs1 ⊢
  have s2 := slF_lit2 w1 46 (hc.below b1) (hc2.below b1) (hd.below b1) (hd2.below b1)
  have b2 := below_alloc (w := w1) (Nat.le_refl _) (.cells #[.bool (ngB c.num), uc, tc, .bool (ngB d.num), ud, td] 46)
  have hs2 : (w1.alloc (.cells #[.bool (ngB c.num), uc, tc, .bool (ngB d.num), ud, td] 46)).heap.size = w.heap.size + 1 + 1 := by simpa using hs1
  obtain ⟨w2, hw2⟩ : ∃ w2, w2 = w1.alloc (.cells #[.bool (ngB c.num), uc, tc, .bool (ngB d.num), ud, td] 46) := ⟨_, rfl⟩
  rw [← hw2] at s2 b2 hs2 ⊢
  rw [hs1] at s2
  have b3 := below_alloc (w := w2) (Nat.le_refl _) (.cells #[.slice (some ⟨w.heap.size, 0, none⟩) 2 2, .slice (some ⟨w.heap.size + 1, 0, none⟩) 2 2] 39)
  have hv := isV_lit w2 39 [.slice (some ⟨w.heap.size, 0, none⟩) 2 2, .slice (some ⟨w.heap.size + 1, 0, none⟩) 2 2]
  rw [hs2] at hv
  refine ⟨slT_two hv ((s1.below b2).below b3) (s2.below b3) (fun A n c e => by injection e with _ _ e3; subst e3; unfold maxLen; simp), ?_⟩
  exact b1.trans ((b2.mono b1.size).trans (b3.mono (Nat.le_trans b1.size b2.size)))
set_option maxHeartbeats 6400000 in
set_option maxRecDepth 100000 in
theorem works12_any (w : World) : Calls Tryz.prog 15 #[] w (RetV (.bool true) w) := by
  obtain ⟨Z, hZ⟩ : ∃ Z : Rat, Z = ((0 : Int) : Rat) := ⟨_, rfl⟩
  obtain ⟨O, hO⟩ : ∃ O : Rat, O = ((1 : Int) : Rat) := ⟨_, rfl⟩
  have HZ := Lib.hid hZ
  have HO := Lib.hid hO
  have CZ : Calls Tryz.prog 37 #[.int .i64 0] w (RetQ Z w) := by rw [hZ]; exact of8_any 0 _ (by omega) (by omega)
  have CO : ∀ w, Calls Tryz.prog 37 #[.int .i64 1] w (RetQ O w) := fun w => by rw [hO]; exact of8_any 1 _ (by omega) (by omega)
  clear hZ hO
  go_enter Tryz.func15, Tryz.ntmps15
  go_wp2_with fail
  refine CZ.mono ?_
  rintro e w1 ⟨v0, rfl, k0, f0, b1⟩
  obtain ⟨u0, t0, rfl, q0, d0⟩ := k0
  obtain ⟨A0, c0, rfl, _⟩ := id q0
  obtain ⟨D0, e0, rfl, _⟩ := id d0
  go_wp2_with fail
  refine (CO _).mono ?_
  rintro e w2 ⟨v1, rfl, k1, f1, b2⟩
  obtain ⟨u1, t1, rfl, q1, d1⟩ := k1
  obtain ⟨A1, c1, rfl, _⟩ := id q1
  obtain ⟨D1, e1, rfl, _⟩ := id d1
  have q02 := q0.below b2
  have d02 := d0.below b2
  clear CZ CO f0 f1 q0 d0
  go_upto_region 2 with (fail)
  have B0 := (Blk.new w2 46 #[.bool (ngB Z.num), .slice A0 (digs 4294967296 Z.num.natAbs).length c0, .slice D0 (digs 4294967296 Z.den).length e0]).alloc (.cells #[.bool (ngB O.num), .slice A1 (digs 4294967296 O.num.natAbs).length c1, .slice D1 (digs 4294967296 O.den).length e1] 46)
  have hs1 : (w2.alloc (.cells #[.bool (ngB Z.num), .slice A0 (digs 4294967296 Z.num.natAbs).length c0, .slice D0 (digs 4294967296 Z.den).length e0] 46)).heap.size = w2.heap.size + 1 := by simp
  have B1 := Blk.new (w2.alloc (.cells #[.bool (ngB Z.num), .slice A0 (digs 4294967296 Z.num.natAbs).length c0, .slice D0 (digs 4294967296 Z.den).length e0] 46)) 46 #[.bool (ngB O.num), .slice A1 (digs 4294967296 O.num.natAbs).length c1, .slice D1 (digs 4294967296 O.den).length e1]
  have ba := below_alloc (w := w2) (Nat.le_refl _) (.cells #[.bool (ngB Z.num), .slice A0 (digs 4294967296 Z.num.natAbs).length c0, .slice D0 (digs 4294967296 Z.den).length e0] 46)
  have ba2 := below_alloc (w := w2.alloc (.cells #[.bool (ngB Z.num), .slice A0 (digs 4294967296 Z.num.natAbs).length c0, .slice D0 (digs 4294967296 Z.den).length e0] 46)) (Nat.le_refl _) (.cells #[.bool (ngB O.num), .slice A1 (digs 4294967296 O.num.natAbs).length c1, .slice D1 (digs 4294967296 O.den).length e1] 46)
  have bb2 := ba.trans (ba2.mono ba.size)
  rw [hs1] at B1
  obtain ⟨g, hg⟩ : ∃ g, g = w2.heap.size := ⟨_, rfl⟩
  have q03 := q02.below bb2
  have d03 := d02.below bb2
  have q13 := q1.below bb2
  have d13 := d1.below bb2
  have bb := (b1.trans (b2.mono b1.size)).trans (bb2.mono (Nat.le_trans b1.size b2.size))
  obtain ⟨w3, hw3⟩ : ∃ w3, w3 = (w2.alloc (.cells #[.bool (ngB Z.num), .slice A0 (digs 4294967296 Z.num.natAbs).length c0, .slice D0 (digs 4294967296 Z.den).length e0] 46)).alloc (.cells #[.bool (ngB O.num), .slice A1 (digs 4294967296 O.num.natAbs).length c1, .slice D1 (digs 4294967296 O.den).length e1] 46) := ⟨_, rfl⟩
  rw [← hw3] at B0 B1 q03 d03 q13 d13 bb ⊢
  rw [← hg] at B0 B1 ⊢
  clear hw3 hg hs1 ba ba2 bb2 b1 b2 q02 d02 q1 d1
  obtain ⟨z00, z01, z02, _, _, _⟩ := three B0
  obtain ⟨z10, z11, z12, _, _, _⟩ := three B1
  obtain ⟨T, hT⟩ : ∃ T, T = [[Z, O], [Z, Z]] := ⟨_, rfl⟩
  have ST := tab22 w3 q03 d03 q13 d13 q03 d03 q03 d03
  obtain ⟨y00, y01, y02, _, _, _⟩ := three (B0.alloc (.cells #[.bool (ngB Z.num), .slice A0 (digs 4294967296 Z.num.natAbs).length c0, .slice D0 (digs 4294967296 Z.den).length e0, .bool (ngB O.num), .slice A1 (digs 4294967296 O.num.natAbs).length c1, .slice D1 (digs 4294967296 O.den).length e1] 46))
  go_upto_region 3 with (fail)
  obtain ⟨w4, hw4⟩ : ∃ w4, w4 = (((w3.alloc (.cells #[.bool (ngB Z.num), .slice A0 (digs 4294967296 Z.num.natAbs).length c0, .slice D0 (digs 4294967296 Z.den).length e0, .bool (ngB O.num), .slice A1 (digs 4294967296 O.num.natAbs).length c1, .slice D1 (digs 4294967296 O.den).length e1] 46)).alloc (.cells #[.bool (ngB Z.num), .slice A0 (digs 4294967296 Z.num.natAbs).length c0, .slice D0 (digs 4294967296 Z.den).length e0, .bool (ngB Z.num), .slice A0 (digs 4294967296 Z.num.natAbs).length c0, .slice D0 (digs 4294967296 Z.den).length e0] 46)).alloc (.cells #[.slice (some ⟨w3.heap.size, 0, none⟩) 2 2, .slice (some ⟨w3.heap.size + 1, 0, none⟩) 2 2] 39)) := ⟨_, rfl⟩
  rw [← hw4] at ST ⊢
  obtain ⟨h4, hh4⟩ : ∃ h4, h4 = w3.heap.size + 1 + 1 := ⟨_, rfl⟩
  rw [← hh4] at ST ⊢
  obtain ⟨ST, b4⟩ := ST
  rw [← hT] at ST
  have bb4 := bb.trans (b4.mono bb.size)
  have B04 := B0.below b4
  have q04 := q03.below b4
  have d04 := d03.below b4
  have lz : lenQ Z 1 := by rw [HZ.out]; exact ⟨digs_len_le (k := 1) (by omega) (by decide +kernel), digs_len_le (k := 1) (by omega) (by decide +kernel)⟩
  have lo : lenQ O 1 := by rw [HO.out]; exact ⟨digs_len_le (k := 1) (by omega) (by decide +kernel), digs_len_le (k := 1) (by omega) (by decide +kernel)⟩
  have lT : T.length ≤ 4 ∧ (∀ r ∈ T, r.length ≤ 4) ∧ lenT T 10 := by
    rw [hT]
    refine ⟨by simp, fun r hr => ?_, fun r hr x hx => ?_⟩
    · simp at hr; rcases hr with rfl | rfl <;> simp
    · simp at hr
      rcases hr with rfl | rfl
      · simp at hx; rcases hx with rfl | rfl
        · exact lz.mono (by omega)
        · exact lo.mono (by omega)
      · simp at hx; rw [hx]; exact lz.mono (by omega)
  have mT : mayq T := by rw [hT]; exact ⟨by simp, by show 2 ≤ 200; omega, fun r hr => by simp at hr; rcases hr with rfl | rfl <;> rfl⟩
  have mI : mayq (identq 2) := ⟨by rw [identq_len]; omega, by rw [identq_wide]; omega, identq_even 2⟩
  have HL1 : Hid (([T, T] : List (List (List Rat))).length ≤ 3 ∧ ∀ t ∈ [T, T], t.length ≤ 4 ∧ (∀ r ∈ t, r.length ≤ 4) ∧ lenT t 10) := ⟨by simp, fun t ht => by simp at ht; rw [ht]; exact lT⟩
  have HL2 : Hid (([identq 2, T] : List (List (List Rat))).length ≤ 3 ∧ ∀ t ∈ [identq 2, T], t.length ≤ 4 ∧ (∀ r ∈ t, r.length ≤ 4) ∧ lenT t 10) := ⟨by simp, fun t ht => by
    simp at ht
    rcases ht with rfl | rfl
    · exact ⟨by rw [identq_len]; omega, fun r hr => by rw [identq_rows r hr]; omega, (lenT_ident 2).mono (by omega)⟩
    · exact lT⟩
  have lT2 : T.length = 2 := by rw [hT]; rfl
  have wT2 : wideq T = 2 := by rw [hT]; rfl
  have HF1 : Hid (fitsq [T, T]) := ⟨by simp, fun i t ht => by
    rcases i with _ | _ | i
    · obtain rfl : T = t := by simpa using ht
      exact ⟨mT, fun s h => by omega⟩
    · obtain rfl : T = t := by simpa using ht
      exact ⟨mT, fun s _ hs => by obtain rfl : T = s := by simpa using hs; ; rw [wT2, lT2]⟩
    · simp at ht⟩
  have HF2 : Hid (fitsq [identq 2, T]) := ⟨by simp, fun i t ht => by
    rcases i with _ | _ | i
    · obtain rfl : identq 2 = t := by simpa using ht
      exact ⟨mI, fun s h => by omega⟩
    · obtain rfl : T = t := by simpa using ht
      exact ⟨mT, fun s _ hs => by obtain rfl : identq 2 = s := by simpa using hs; ; rw [identq_wide, lT2]⟩
    · simp at ht⟩
  obtain ⟨P, hP⟩ : ∃ P, P = prodT [T, T] := ⟨_, rfl⟩
  obtain ⟨Q, hQ⟩ : ∃ Q, Q = prodT [identq 2, T] := ⟨_, rfl⟩
  obtain ⟨I2, hI2⟩ : ∃ I2, I2 = identq 2 := ⟨_, rfl⟩
  have HP2 : Hid (P = [[Z, Z], [Z, Z]]) := by show _ = _; rw [hP, hT, HZ.out, HO.out]; decide +kernel
  have HQ2 : Hid (Q = T) := by show _ = _; rw [hQ]; exact identq_mul mT.2.2 lT2
  have HPP := Lib.hid hP.symm
  have HQQ := Lib.hid hQ.symm
  have HII := Lib.hid hI2.symm
  have HT := Lib.hid hT
  clear hw4 hh4 B0 B1 z00 z01 z02 z10 z11 z12 y00 y01 y02 q03 d03 q13 d13 hT hP hQ hI2 bb lz lo lT mT mI lT2 wT2 b4
  have HLa := listT_two (isV_lit w4 22 [.slice (some ⟨h4, 0, none⟩) 2 2, .slice (some ⟨h4, 0, none⟩) 2 2]) (ST.below (below_alloc (Nat.le_refl _) _)) (ST.below (below_alloc (Nat.le_refl _) _))
  have ba := below_alloc (w := w4) (Nat.le_refl _) (.cells #[.slice (some ⟨h4, 0, none⟩) 2 2, .slice (some ⟨h4, 0, none⟩) 2 2] 22)
  go_wp2_with fail
  refine (mmul_any _ [T, T] _ HLa HL1.out).mono ?_
  rintro e w5 h5
  obtain ⟨VP, rfl, SP, b5⟩ : RetTE (prodT [T, T]) 0 _ e w5 := by
    rcases h5 with ⟨_, h5⟩ | ⟨h5, _⟩
    · exact h5
    · exact absurd HF1.out h5
  rw [if_pos rfl, HPP.out] at SP
  obtain ⟨AP, cP, rfl, _, _⟩ := SP.shape
  have b45 := ba.trans (b5.mono ba.size)
  have bb5 := bb4.trans (b45.mono bb4.size)
  clear HLa ba b5
  go_wp2_with fail
  refine (mident_ok 2 2 _ rfl (by omega)).mono ?_
  rintro e w6 ⟨VI, rfl, SI, b6⟩
  rw [if_pos rfl, HII.out] at SI
  obtain ⟨AI, cI, rfl, _, _⟩ := SI.shape
  have ST6 := (ST.below b45).below b6
  have HLb := listT_two (isV_lit w6 22 [.slice AI I2.length cI, .slice (some ⟨h4, 0, none⟩) 2 2]) (SI.below (below_alloc (Nat.le_refl _) _)) (ST6.below (below_alloc (Nat.le_refl _) _))
  have ba := below_alloc (w := w6) (Nat.le_refl _) (.cells #[.slice AI I2.length cI, .slice (some ⟨h4, 0, none⟩) 2 2] 22)
  rw [← HII.out] at HLb
  go_wp2_with fail
  refine (mmul_any _ [identq 2, T] _ (by rw [HII.out] at HLb ⊢; exact HLb) HL2.out).mono ?_
  rintro e w7 h7
  obtain ⟨VQ, rfl, SQ, b7⟩ : RetTE (prodT [identq 2, T]) 0 _ e w7 := by
    rcases h7 with ⟨_, h7⟩ | ⟨h7, _⟩
    · exact h7
    · exact absurd HF2.out h7
  rw [if_pos rfl, HQQ.out] at SQ
  obtain ⟨AQ, cQ, rfl, _, _⟩ := SQ.shape
  have b57 := b6.trans ((ba.trans (b7.mono ba.size)).mono b6.size)
  have b47 := b45.trans (b57.mono b45.size)
  have bb7 := bb4.trans (b47.mono bb4.size)
  have SP7 := SP.below b57
  have ST7 := ST.below b47
  have S22 := tab22 w7 (q04.below b47) (d04.below b47) (q04.below b47) (d04.below b47) (q04.below b47) (d04.below b47) (q04.below b47) (d04.below b47)
  have B07 := B04.below b47
  obtain ⟨z00, z01, z02, _, _, _⟩ := three B07
  obtain ⟨y00, y01, y02, _, _, _⟩ := three (B07.alloc (.cells #[.bool (ngB Z.num), .slice A0 (digs 4294967296 Z.num.natAbs).length c0, .slice D0 (digs 4294967296 Z.den).length e0, .bool (ngB Z.num), .slice A0 (digs 4294967296 Z.num.natAbs).length c0, .slice D0 (digs 4294967296 Z.den).length e0] 46))
  clear SP ST HLb ba b6 b7 b57 b45 B04 B07 q04 d04 SI ST6
  go_wp2_with fail
  refine (msame_any _ _ P [[Z, Z], [Z, Z]] true _ (SP7.below S22.2) S22.1 (decide_eq_true HP2.out).symm).mono ?_
  rintro e w8 ⟨rfl, b8⟩
  have b78 := S22.2.trans (b8.mono S22.2.size)
  have bb8 := bb7.trans (b78.mono bb7.size)
  have SQ8 := SQ.below b78
  have ST8 := ST7.below b78
  clear SP7 ST7 SQ S22 b8 b78
  go_wp2_with fail
  refine (msame_any _ _ Q T true _ SQ8 (by rw [HT.out] at ST8 ⊢; exact ST8) (decide_eq_true HQ2.out).symm).mono ?_
  rintro e w9 ⟨rfl, b9⟩
  have bb9 := bb8.trans (b9.mono bb8.size)
  go_wp2
  go_ret
  exact ⟨rfl, bb9⟩
section
variable {P : Program}
/-- 'all = append(all, x)', all a row of slices of the call's own. -/
theorem wpList_append_w {w : World} {ops : Array Oper} {rest : List Oper} {o : Oper} {a : Act} {Q : Exit → Act → World → Prop} (hgd : o.guard = none) (s x : Operand) {t : TypeId}
    (ho : o.op = .call { callee := .builtin .append, args := #[s, x], argTypes := #[t, t] })
    {base : Nat} {T : TypeId} (hT : P.underlying t = some (.slice T)) (hI : ∃ i, P.info? T = some i ∧ i.zero = some (.slice none 0 0) ∧ i.size = 1 ∧ i.bytes = 24) {v u : Value} {vs : List Value} (hs : a.eval s = v) (hown : RowV w base T v vs) (hx : a.eval x = .slice (some ⟨w.heap.size, 0, none⟩) 1 1) (hu : u.oneCell' = true)
    (hlen : vs.length ≤ 1000000000) (hbase : base ≤ w.heap.size)
    (h : ∀ v' w', RowV w' base T v' (vs ++ [u]) → Below base w w' → Hid (Grew w w' v v') → wpList P ops Q rest (a.put o.dst v') w') : wpList P ops Q (o :: rest) a (w.alloc (.cells #[u] T)) := by
  obtain ⟨i, hi, hz, hsz, hby⟩ := hI
  refine wpList_append_lies (w.alloc (.cells #[u] T)) hgd s x t ho base T i (.slice none 0 0) 1 24 hT hi hz hsz hby rfl (by omega) v vs.length vs hs (World.ownsRow.alloc hown _) ⟨w.heap.size, 0, none⟩ 1 1 [u] hx rfl ?_ ?_ (by omega) (by unfold maxLen; omega) (by omega) (by simp; omega) _ rfl ?_
  · exact World.news_of_block (heap_alloc_new w _)
  · intro u' hu'
    obtain rfl := List.mem_singleton.1 hu'
    exact hu
  · intro g cap w' g1 g2 g3 g4
    have h5 : w.grownBy w' v.ownBlock := grown_trans (World.grownBy_alloc w _ _) g2
    refine h _ w' (by unfold RowV; rw [List.length_append]; exact g1) ((Below.refl base w).grown h5 hbase hown.base_le) ?_
    refine ⟨?_, h5, fun k hk hne e1 => ?_⟩
    · intro k q l hq hf
      refine ⟨hq.farKept hf h5, ?_⟩
      rintro ad n c rfl hn
      rcases g3 with h3 | h3
      · have := hf ad n c rfl hn
        rw [h3] at this
        exact this
      · subst h3
        intro e1
        have e2 : ad.block = (w.alloc (.cells #[u] T)).heap.size := by simpa [Value.ownBlock] using e1
        obtain ⟨A, c', e3, k1, k2, k3⟩ := hq
        injection e3 with e3 e4 e5
        subst e3; subst e4
        obtain ⟨ad', he, hc⟩ := k3 0 _ (List.getElem?_eq_getElem hn)
        injection he with he; subst he
        have h6 := World.block_lt_of_cell? w _ hc
        rw [Go.ChangeShapes.block_add] at h6
        simp at e2
        omega
    · have e2 : g = k := by simpa [Value.ownBlock] using e1
      subst e2
      rcases g3 with h3 | h3
      · exact hne h3
      · simp at h3; omega
end
/-- A row of its own, of limbs that were there ahead of it. -/
def RetCol (w : World) (r : List Rat) (W : World) (e : Ending) (w' : World) : Prop := ∃ u ps, e = .returned u ∧ ps.map (·.1) = r ∧ RowF 63 w' W.heap.size u ps ∧ FarF .i64 10000 w' u ps ∧ (∀ p ∈ ps, IsE .i64 10000 w p) ∧ Below W.heap.size W w'
set_option maxHeartbeats 3200000 in
set_option maxRecDepth 100000 in
theorem rcol_any (a0 : Value) (t : List (List Rat)) (j : Nat) (w W : World) (h0 : SlT .i64 10000 w a0 t) (hb : Below w.heap.size w W) (hj : ∀ r ∈ t, j < r.length) (hl : t.length ≤ 1000000) :
    Calls Tryz.prog 48 #[a0, .int .i64 (j : Int)] W (RetCol w (colq t j) W) := by
  have bb : Below w.heap.size w w := Below.refl _ _
  have st0 := h0
  obtain ⟨A0, c0, rfl, hc0, hm0⟩ := h0.shape
  unfold maxLen at hm0
  have HJ := Lib.hid hj
  have hbase : w.heap.size ≤ W.heap.size := hb.size
  have HCL : Hid ((colq t j).length = t.length) := colq_len t j
  clear bb hj
  have bb : Below w.heap.size w W := hb
  have bW : Below W.heap.size W W := Below.refl _ _
  go_enter Tryz.func48, Tryz.ntmps48
  go_upto_region 1 with (fail)
  have hsz0 := bb.size
  go_wp2
  go_loopw [5, 6] (fun v5 v6 wr => ∃ (k : Nat) (ps : List Elt), k ≤ t.length ∧ Hid (ps.map (·.1) = (colq t j).take k) ∧ RowF 63 wr W.heap.size v5 ps ∧ FarF .i64 10000 wr v5 ps ∧ Hid (∀ p ∈ ps, IsE .i64 10000 w p) ∧ Below W.heap.size W wr ∧ v6 = .int .i64 (k : Int)) (fun _ v6 _ => t.length - (intOf v6).toNat)
  case atStart => exact ⟨0, [], by omega, rfl, rowF_lit0 _ _ _ (Nat.le_refl _), FarF.nil _ _ _ _, (by show ∀ p ∈ _, _; intro p hp; cases hp), below_alloc (Nat.le_refl _) _, rfl⟩
  case round =>
    obtain ⟨k, ps, hk, HP, hR, hF, HO, hbW, rfl⟩ := hrel
    clear bb bW
    have bb : Below w.heap.size w wr := hb.trans (hbW.mono hb.size)
    have hszr := bb.size
    by_cases hlt : k < t.length
    · have hnt : t ≠ [] := List.length_pos_iff.1 (by omega)
      obtain ⟨x, hx⟩ : ∃ x, t[k]? = some x := ⟨_, List.getElem?_eq_getElem hlt⟩
      have HX := Lib.hid hx
      have hjx : j < x.length := HJ.out x (List.mem_of_getElem? hx)
      obtain ⟨ad0, rfl⟩ := st0.place hnt
      obtain ⟨Arx, crx, hix, ewx, srx⟩ := st0.at2 hx
      clear hx
      have ecx := (bb.cell (World.block_lt_of_cell? w _ ewx)).trans ewx
      obtain ⟨y, hy⟩ : ∃ y, x[j]? = some y := ⟨_, List.getElem?_eq_getElem hjx⟩
      have HCA : Hid ((colq t j)[k]? = some y) := by show _ = _; rw [colq_at HX.out, getD_of hy]
      obtain ⟨gy_, oy_, uy, ty, hAy_, _, y0, y1, y2, ys, yd⟩ := srx.at_ hy
      subst hAy_
      obtain ⟨Ay, cy, rfl, _⟩ := id ys
      obtain ⟨Dy, ey, rfl, _⟩ := id yd
      have zy0 := (bb.cell (World.block_lt_of_cell? w _ y0)).trans y0
      have zy1 := (bb.cell (World.block_lt_of_cell? w _ y1)).trans y1
      have zy2 := (bb.cell (World.block_lt_of_cell? w _ y2)).trans y2
      clear hy y0 y1 y2
      obtain ⟨AR, cR, hAR, _⟩ := hR.isVF
      subst hAR
      have HL8 : Hid (ps.length ≤ 1000000000) := by
        have h1 := congrArg List.length HP.out
        rw [List.length_map, List.length_take] at h1
        show _ ≤ _
        omega
      have sB := bb.size
      go_upto_region 5 with (fail)
      refine flowp 9 [Pd.eq (.slice AR ps.length cR), Pd.eq (.slice (some ad0) t.length c0), Pd.eq (.int .i64 (k : Int)), Pd.eq (.pointer (some (ad0.add k))), Pd.eq (.slice (some ⟨gy_, oy_, none⟩) x.length crx), Pd.eq (.int .i64 (j : Int)), Pd.eq (.pointer (some ⟨gy_, oy_ + j * 3, none⟩)), Pd.eq (.agg #[.bool (ngB (y).num), .slice Ay (digs 10000 (y).num.natAbs).length cy, .slice Dy (digs 10000 (y).den).length ey]), pone (Pd.eq (.agg #[.bool (ngB (y).num), .slice Ay (digs 10000 (y).num.natAbs).length cy, .slice Dy (digs 10000 (y).den).length ey]))] (by kernel_rfl) ?ob1 ?done1
      case ob1 =>
        refine And.intro (ob_move rfl (wt_none rfl) (ev_far rfl rfl) (fun _ _ h => h)) ?_
        refine And.intro (ob_move rfl (wt_none rfl) (ev_far rfl rfl) (fun _ _ h => h)) ?_
        refine And.intro (ob_move rfl (wt_none rfl) (ev_far rfl rfl) (fun _ _ h => h)) ?_
        refine And.intro (ob_indexAddr rfl (wt_none rfl) (ev_dep (j := 1) (by kernel_rfl) rfl rfl) (ev_dep (j := 2) (by kernel_rfl) rfl rfl) (fun _ _ _ hx hy => ⟨_, by rw [hx, hy]; exact index1_any (k := k) Tryz.underlying23 (by kernel_rfl) ad0 hlt _, rfl⟩)) ?_
        refine And.intro (ob_load rfl (wt_none rfl) (ev_dep (j := 3) (by kernel_rfl) rfl rfl) (fun w2 hb => run_load1 Tryz.underlying48 rfl ((hb.cell (World.block_lt_of_cell? wr _ ecx)).trans ecx)) (fun _ _ => rfl)) ?_
        refine And.intro (ob_move rfl (wt_none rfl) (ev_far rfl rfl) (fun _ _ h => h)) ?_
        refine And.intro (ob_indexAddr rfl (wt_none rfl) (ev_dep (j := 4) (by kernel_rfl) rfl rfl) (ev_dep (j := 5) (by kernel_rfl) rfl rfl) (fun _ _ _ hx hy => ⟨_, by rw [hx, hy]; exact index3 (k := j) Tryz.underlying48 (by kernel_rfl) hjx _, rfl⟩)) ?_
        refine And.intro (ob_load rfl (wt_none rfl) (ev_dep (j := 6) (by kernel_rfl) rfl rfl) (fun w2 hb => load3 Tryz.underlying63 rfl (by kernel_rfl) ((hb.cell (World.block_lt_of_cell? wr _ zy0)).trans zy0) ((hb.cell (World.block_lt_of_cell? wr _ zy1)).trans zy1) ((hb.cell (World.block_lt_of_cell? wr _ zy2)).trans zy2)) (fun _ _ => rfl)) ?_
        refine And.intro (ob_build_q (φ := Pd.eq (.agg #[.bool (ngB (y).num), .slice Ay (digs 10000 (y).num.natAbs).length cy, .slice Dy (digs 10000 (y).den).length ey])) rfl rfl (ev_dep (j := 7) (by kernel_rfl) rfl rfl) Tryz.underlying48 info_q (fun w v h => ⟨h, by obtain rfl := h; exact ⟨_, _, _, rfl, rfl, rfl, rfl⟩⟩) (fun _ _ h => h)) ?_
        trivial
      case done1 =>
        refine fun w12 hb12 v0 h0 v1 h1 v2 h2 v3 h3 v4 h4 v5 h5 v6 h6 v7 h7 v8 h8 b hbf => ?_
        obtain rfl := h0; obtain rfl := h1; obtain rfl := h2; obtain rfl := h3; obtain rfl := h4; obtain rfl := h5; obtain rfl := h6; obtain rfl := h7
        obtain ⟨g8_, x8, y8, z8, rfl, c80, c81, c82, K8⟩ := h8
        simp only [Act.put, List.setIfInBounds_toArray, List.set_cons_zero, List.set_cons_succ] at hbf
        subst hbf
        replace hR := hR.below hb12
        replace hF := hF.below hb12
        replace bb := bb.trans (hb12.mono bb.size)
        have hsz12 := bb.size
        replace hbW := hbW.trans (hb12.mono hbW.size)
        obtain ⟨rfl, rfl, rfl⟩ : x8 = .bool (ngB (y).num) ∧ y8 = .slice Ay (digs 10000 (y).num.natAbs).length cy ∧ z8 = .slice Dy (digs 10000 (y).den).length ey := by
          have e := K8
          injection e with e
          simpa using e
        have hszB : W.heap.size ≤ w12.heap.size := hbW.size
        have hbl := fun g h => Nat.le_trans hbase (hR.base_le g h)
        refine ops_append_q (i := 9) (.tmp 14) (.tmp 22) rfl rfl rfl Tryz.underlying48 info_q (p := (y, .slice Ay (digs 10000 (y).num.natAbs).length cy, .slice Dy (digs 10000 (y).den).length ey)) (ps := ps) rfl hR rfl c80 c81 c82 rfl rfl HL8.out hszB fun v8 w8 b8 row8 bb8 HK8 hb8 => ?_
        simp only [Act.put, List.setIfInBounds_toArray, List.set_cons_zero, List.set_cons_succ] at hb8
        subst hb8
        have EC : IsE .i64 10000 w12 ((y, .slice Ay (digs 10000 (y).num.natAbs).length cy, .slice Dy (digs 10000 (y).den).length ey) : Elt) := ⟨ys.below bb, yd.below bb⟩
        have F8 := hF.snoc HK8.out.1 EC (ys.farOld hbl) (yd.farOld hbl)
        have HO8 : Hid (∀ p ∈ ps ++ [((y, .slice Ay (digs 10000 (y).num.natAbs).length cy, .slice Dy (digs 10000 (y).den).length ey) : Elt)], IsE .i64 10000 w p) := fun p hp => by
          rcases List.mem_append.1 hp with hp | hp
          · exact HO.out p hp
          · rw [List.mem_singleton.1 hp]; exact ⟨ys, yd⟩
        have HP8 : Hid ((ps ++ [((y, .slice Ay (digs 10000 (y).num.natAbs).length cy, .slice Dy (digs 10000 (y).den).length ey) : Elt)]).map (·.1) = (colq t j).take (k + 1)) := by
          show _ = _
          rw [List.map_append, HP.out, take_snoc HCA.out]
          rfl
        have b8 := hbW.trans bb8
        clear HK8 EC hR hF
        refine ops_assign (i := 10) (v8) rfl rfl rfl rfl rfl fun b hbf => ?_
        simp only [Act.put, List.setIfInBounds_toArray, List.set_cons_zero, List.set_cons_succ] at hbf
        subst hbf
        refine ops_done ?_
        have hsk : t.length - (k + 1) < t.length - k := by omega
        go_wp2
        go_roundw
        case rel => exact ⟨k + 1, _, by omega, HP8, row8, F8, HO8, b8, by go_num⟩
        case measure => simp [intOf]; omega
    · have HPE : Hid (ps.map (·.1) = colq t j) := by show _ = _; rw [HP.out, List.take_of_length_le (by rw [HCL.out]; omega)]
      clear HP
      go_wp2
      go_ret
      exact ⟨_, ps, rfl, HPE.out, hR, hF, HO.out, hbW⟩
theorem take_succ_of {α : Type} {l : List α} {k : Nat} {x : α} (h : l[k]? = some x) : l.take (k + 1) = l.take k ++ [x] := by rw [List.take_add_one, h]; rfl
set_option maxHeartbeats 3200000 in
set_option maxRecDepth 100000 in
theorem rturn_any (a0 : Value) (t : List (List Rat)) (w : World) (h0 : SlT .i64 10000 w a0 t) (hl : t.length ≤ 1000 ∧ wideq t ≤ 1000 ∧ evenq t) :
    Calls Tryz.prog 30 #[a0] w (RetSlT .i64 10000 (turnq t) w) := by
  have st0 := h0
  obtain ⟨A0, c0, rfl, hc0, hm0⟩ := h0.shape
  have HL := Lib.hid hl
  have HTL : Hid ((turnq t).length = wideq t) := turnq_len t
  have hw2 : wideq t ≤ 1000 := hl.2.1
  clear hl
  go_enter Tryz.func30, Tryz.ntmps30
  go_wp2
  go_loopw [3, 4] (fun v3 v4 wr => ∃ (k : Nat) (us : List Value), k ≤ wideq t ∧ RowV wr w.heap.size 48 v3 us ∧ TabF .i64 10000 wr v3 us ((turnq t).take k) ∧ Below w.heap.size w wr ∧ v4 = .int .i64 (k : Int)) (fun _ v4 _ => wideq t - (intOf v4).toNat)
  case atStart => exact ⟨0, [], by omega, rowV_lit0 _ _ _ (Nat.le_refl _), TabF.nil _ _ _ _, below_alloc (Nat.le_refl _) _, rfl⟩
  case round =>
    obtain ⟨k, us, hk, hR, hT, bb, rfl⟩ := hrel
    have hsh : ∃ A n c, u3 = .slice A n c := by
      rcases hR.2 with ⟨e, _⟩ | ⟨g, cap, cur, e, _⟩
      · exact ⟨_, _, _, e⟩
      · exact ⟨_, _, _, e⟩
    obtain ⟨A3, n3, c3, rfl⟩ := hsh
    go_wp2_with fail
    refine (rwide_any _ t _ (st0.below bb)).mono ?_
    rintro e w2 ⟨rfl, b2⟩
    have bb2 := bb.trans (b2.mono bb.size)
    have hR2 := hR.below b2
    have hT2 := hT.below b2
    clear hR hT
    by_cases hlt : k < wideq t
    · have HUL : Hid (us.length ≤ 1000000000) := by
        have h1 := hT2.1
        rw [List.length_take, HTL.out] at h1
        show _ ≤ _
        omega
      have HAT : Hid ((turnq t).take (k + 1) = (turnq t).take k ++ [colq t k]) := take_succ_of (turnq_at hlt)
      go_wp2_with fail
      refine (rcol_any _ t k w w2 st0 bb2 (fun r hr => by rw [HL.out.2.2 r hr]; exact hlt) (Nat.le_trans HL.out.1 (by decide))).mono ?_
      rintro e w4 ⟨u, ps, rfl, hmap, hrow, hfar, hold, b4⟩
      have hR4 := hR2.below b4
      have hT4 := hT2.below b4
      have bb4 := bb2.trans (b4.mono bb2.size)
      have hS : FarS .i64 10000 w4 (.slice A3 n3 c3) u (colq t k) := ⟨ps, hmap, hrow.isVF, fun p hp => ⟨(hfar p hp).1, (hold p hp).1.farOld hR2.base_le, (hold p hp).2.farOld hR2.base_le⟩, fun g hg => ⟨hrow.under g hg, fun e => by have h1 := hR2.under g e; have h2 := hrow.base_le g hg; omega⟩⟩
      obtain ⟨Au, cu, eu, _⟩ := hrow.isVF
      subst eu
      clear hR2 hT2 hrow hfar hold hmap b4
      have hbs := bb4.size
      go_wp2_with (at_builtin; refine wpList_append_w rfl (.tmp 12) (.tmp 16) rfl Tryz.underlying23 info_veq rfl hR4 rfl rfl HUL.out hbs ?_; intro v7 w7 row7 bb7 HK7)
      have T7 := hT4.snoc HK7.out hS
      rw [← HAT.out] at T7
      have bb8 := bb4.trans bb7
      have hsk : wideq t - (k + 1) < wideq t - k := by omega
      clear hT4 hS hR4 HK7
      go_wp2
      go_roundw
      case rel => exact ⟨k + 1, _, by omega, row7, T7, bb8, by go_num⟩
      case measure => simp [intOf]; omega
    · have hS := RowV.tab hR2 hT2
      rw [List.take_of_length_le (by rw [HTL.out]; omega)] at hS
      clear hR2 hT2
      go_wp2
      go_ret
      exact ⟨_, rfl, hS, bb2⟩
end Go.Proofs.YtekpnbgchoccmaaGreat.rat
namespace Go.Proofs.YtekpnbgchoccmaaGreat.rat
open Go.RowKit Go.ChangeShapes Go.WideShapes Go.ChangeAt Go.Joins Go.Deep Go.Proofs.YtekpnbgchoccmaaGreat.num Go.Proofs.YtekpnbgchoccmaaGreat.mem Go.Proofs.YtekpnbgchoccmaaGreat.nat Go.Proofs.YtekpnbgchoccmaaGreat.txt Go.Proofs.YtekpnbgchoccmaaGreat.str Go.Proofs.YtekpnbgchoccmaaGreat.flow Go.Proofs.YtekpnbgchoccmaaGreat.whl
set_option linter.unusedVariables false
/-- A slice of slices of structs of a sign, limbs, and limbs, as it came in. -/
def ArgT (w : World) (v : Value) : Prop := ∃ A n c, v = .slice A n c ∧ n ≤ c ∧ c ≤ maxLen ∧ ∀ i, i < n → ∃ ad u, A = some ad ∧ w.cell? (ad.add i) = some u ∧ ArgQs w u
theorem ArgT.below {w w' : World} {v : Value} (h : ArgT w v) (hb : Below w.heap.size w w') : ArgT w' v := by
  obtain ⟨A, n, c, e, h1, h2, h3⟩ := h
  refine ⟨A, n, c, e, h1, h2, fun i hi => ?_⟩
  obtain ⟨ad, u, a1, e0, k⟩ := h3 i hi
  exact ⟨ad, u, a1, (hb.cell (World.block_lt_of_cell? w _ e0)).trans e0, ArgQs.below k hb⟩
theorem trod_qs {H : Type} {enc : TypeId × Value → H} {P : Program} {W : World} {fuel : Nat} {ts t e : TypeId} {f0 f1 g0 g1 : Field} {v : Value} {x : DataW H × List MemPlace} (ht : P.underlying ts = some (.slice t)) (hs : P.underlying t = some (.struct #[f0, f1])) (hC : P.cellsOf t = 3) (ho : (f0.offset == 0 && f1.offset == 2 && P.cellsOf f0.type == 2 && P.cellsOf f1.type == 1) = true)
    (hs2 : P.underlying f0.type = some (.struct #[g0, g1])) (hone : oneCellFields P #[g0, g1] = true) (hb : P.underlying g0.type = some .bool) (hsl : P.underlying g1.type = some (.slice e)) (hsl2 : P.underlying f1.type = some (.slice e)) (he : P.underlying e = some (.int .u64)) (ce : P.cellsOf e = 1)
    (hf : DataW.trod enc P W 0 (fun _ => true) true fuel ts [v] = some x) : ArgQs W v := by
  rcases Go.Deep.open_slice ht hf with ⟨hcs, hx⟩ | ⟨a, len', cap', m, n, D, Pl, hcs, _, hl, hm, hmm, hx, hrows⟩
  · injection hcs with hcs
    subst hcs
    exact ⟨none, 0, 0, rfl, by omega, by simp, fun i hi => by omega⟩
  · injection hcs with hcs
    subst hcs
    refine ⟨some a, len', cap', rfl, hl, hm, fun i hi => ?_⟩
    obtain ⟨cs', h1, h2⟩ := hrows i (by simp at hmm; omega)
    rw [hC] at h1
    obtain ⟨_, hlen, hcell⟩ := World.cells?_some h1
    match cs', hlen with
    | [c0, c1, c2], _ =>
      obtain ⟨b, l, m', e0, k1, k2, k3, k4⟩ := trod_q hs ho hs2 hone hb hsl hsl2 he ce h2
      subst e0
      have g0 := hcell 0 (by omega)
      have g1 := hcell 1 (by omega)
      have g2 := hcell 2 (by omega)
      rw [add_add] at g0 g1 g2
      exact ⟨a, b, c1, c2, l, m', rfl, by simpa using g0, by simpa using g1, by simpa using g2, k1, k2, k3, k4⟩
theorem arg_t {H : Type} {enc : TypeId × Value → H} {P : Program} {W : World} {base : Nat} {tt ts t e : TypeId} {f0 f1 g0 g1 : Field} {v : Value} {d : DataW H} {p : List MemPlace} (htt : P.underlying tt = some (.slice ts)) (hC1 : P.cellsOf ts = 1) (ht : P.underlying ts = some (.slice t)) (hs : P.underlying t = some (.struct #[f0, f1])) (hC : P.cellsOf t = 3) (ho : (f0.offset == 0 && f1.offset == 2 && P.cellsOf f0.type == 2 && P.cellsOf f1.type == 1) = true)
    (hs2 : P.underlying f0.type = some (.struct #[g0, g1])) (hone : oneCellFields P #[g0, g1] = true) (hb : P.underlying g0.type = some .bool) (hsl : P.underlying g1.type = some (.slice e)) (hsl2 : P.underlying f1.type = some (.slice e)) (he : P.underlying e = some (.int .u64)) (ce : P.cellsOf e = 1)
    (hv : Value.okWide P W .any base tt v) (h : DataW.Trod enc P W 0 (fun _ => true) true tt v d p) : ArgT W v := by
  obtain ⟨a0, len, cap, rfl⟩ := okWide_slice htt hv
  obtain ⟨fuel, hf⟩ := h
  rcases Go.Deep.open_slice htt hf with ⟨hcs, hx⟩ | ⟨a, len', cap', m, n, D, Pl, hcs, _, hl, hm, hmm, hx, hrows⟩
  · simp [Value.cells] at hcs
    obtain ⟨rfl, rfl, rfl⟩ := hcs
    exact ⟨none, 0, 0, rfl, by omega, by simp, fun i hi => by omega⟩
  · simp [Value.cells] at hcs
    obtain ⟨rfl, rfl, rfl⟩ := hcs
    refine ⟨some a, len, cap, rfl, hl, hm, fun i hi => ?_⟩
    obtain ⟨cs', h1, h2⟩ := hrows i (by simp at hmm; omega)
    rw [hC1] at h1
    obtain ⟨_, hlen, hcell⟩ := World.cells?_some h1
    match cs', hlen with
    | [c0], _ =>
      have g0 := hcell 0 (by omega)
      rw [add_add] at g0
      exact ⟨a, c0, rfl, by simpa using g0, trod_qs ht hs hC ho hs2 hone hb hsl hsl2 he ce h2⟩
end Go.Proofs.YtekpnbgchoccmaaGreat.rat
namespace Go.Proofs.YtekpnbgchoccmaaGreat.rat
open Go.RowKit Go.Proofs.YtekpnbgchoccmaaGreat.num Go.Proofs.YtekpnbgchoccmaaGreat.mem Go.Proofs.YtekpnbgchoccmaaGreat.nat Go.Proofs.YtekpnbgchoccmaaGreat.txt Go.Proofs.YtekpnbgchoccmaaGreat.str Go.Proofs.YtekpnbgchoccmaaGreat.flow Go.Proofs.YtekpnbgchoccmaaGreat.whl
set_option linter.unusedVariables false
/-- Two rows of the call's own, of the same fractions, limbs in new memory. -/
def RetFewW (n : Nat) (w : World) (e : Ending) (w' : World) : Prop := ∃ V U ps rs, e = .returned (.tuple #[V, U]) ∧ TwoRows w w' V U ps rs ∧ NewL w.heap.size ps ∧ NewL w.heap.size rs ∧ rs.map (·.1) = ps.map (·.1) ∧ ps.length = n ∧ (∀ p ∈ ps, lenQ p.1 1)
set_option maxHeartbeats 6400000 in
set_option maxRecDepth 100000 in
theorem few11_two (A0 : Option Addr) (n0 c0 M : Nat) (w : World) (h0 : ArgQs w (.slice A0 n0 c0)) (hM : M ≤ 8) :
    Calls Tryz.prog 19 #[.slice A0 n0 c0, .int .i64 (M : Int)] w (RetFewW (min n0 M) w) := by
  obtain ⟨A0_, n0_, c0_, e_, hn0, hc0, hel⟩ := h0
  injection e_ with e1_ e2_ e3_
  subst e1_
  subst e2_
  subst e3_
  have HEL := Lib.hid hel
  clear hel
  unfold maxLen at hc0
  have bb : Below w.heap.size w w := Below.refl _ _
  go_enter Tryz.func19, Tryz.ntmps19
  go_wp2
  go_loopw [6, 7, 8] (fun v4 v5 v6 wr => ∃ (k : Nat) (ps rs : List Elt), k ≤ M ∧ k ≤ n0 ∧ Hid (ps.length = k) ∧ Hid (rs.map (·.1) = ps.map (·.1)) ∧ Hid (∀ p ∈ ps, lenQ p.1 1) ∧ TwoRows w wr v4 v5 ps rs ∧ NewL w.heap.size ps ∧ NewL w.heap.size rs ∧ v6 = .int .i64 (k : Int)) (fun _ _ v6 _ => M - (intOf v6).toNat)
  case atStart =>
    have r0 := rowF_lit0 46 w w.heap.size (Nat.le_refl _)
    have r1 := rowF_lit0 63 (w.alloc (.cells #[] 46)) w.heap.size (by simp)
    have r0' := r0.below (below_alloc (Nat.le_refl _) (.cells #[] 63))
    refine ⟨0, [], [], by omega, by omega, rfl, rfl, (by show ∀ p ∈ _, _; intro p hp; cases hp), ⟨r0', ?_, ⟨FarF.nil _ _ _ _, FarF.nil _ _ _ _⟩, ⟨FarF.nil _ _ _ _, FarF.nil _ _ _ _⟩, ?_, (below_alloc (Nat.le_refl _) _).alloc (by simp) _⟩, NewL.nil _, NewL.nil _, rfl⟩
    · simpa using r1
    · intro g h1 h2
      simp [Value.ownBlock] at h1 h2
      omega
  case round =>
    obtain ⟨k, ps, rs, hk8, hkn, HPL, HRP, HLQ, hTR, hNP, hNR, rfl⟩ := hrel
    obtain ⟨u4, hu4⟩ : ∃ u4, u4 = u6 := ⟨_, rfl⟩
    obtain ⟨u5, hu5⟩ : ∃ u5, u5 = u7 := ⟨_, rfl⟩
    subst hu4
    subst hu5
    have bb' := hTR.2.2.2.2.2
    clear bb
    have bb := bb'
    clear bb'
    by_cases hlt : k < n0 ∧ k < M
    · obtain ⟨hlt1, hlt2⟩ := hlt
      obtain ⟨ad, b, ue, te, l, m, hA0, e0, e1, e2, hu, lu, ht, lt⟩ := HEL.out k hlt1
      subst hA0
      obtain ⟨Ae, ce, rfl, _⟩ := id hu
      obtain ⟨De, ee, rfl, _⟩ := id ht
      replace e0 := (bb.cell (World.block_lt_of_cell? w _ e0)).trans e0
      replace e1 := (bb.cell (World.block_lt_of_cell? w _ e1)).trans e1
      replace e2 := (bb.cell (World.block_lt_of_cell? w _ e2)).trans e2
      replace hu := hu.below bb
      replace ht := ht.below bb
      obtain ⟨q, hq⟩ : ∃ q, q = cleanQ b l m 1 := ⟨_, rfl⟩
      have lq : lenQ q 1 := by rw [hq]; exact cleanQ_len _ _ _ (by omega)
      have HQ := Lib.hid hq.symm
      clear hq
      have bl : Below wr.heap.size wr wr := Below.refl _ _
      have hszr := bb.size
      go_upto_region 5 with (fail)
      refine flowp 6 [Pd.eq (.slice (some ad) n0 c0), Pd.eq (.int .i64 (k : Int)), Pd.eq (.pointer (some (ad.add (k * 3)))), Pd.eq (.agg #[.bool b, .slice Ae l.length ce, .slice De m.length ee]), pq (q) wr.heap.size, pn 46 #[.bool false, .slice none 0 0, .slice none 0 0] wr.heap.size] (by kernel_rfl) ?ob1 ?done1
      case ob1 =>
        refine And.intro (ob_move rfl (wt_none rfl) (ev_far rfl rfl) (fun _ _ h => h)) ?_
        refine And.intro (ob_move rfl (wt_none rfl) (ev_far rfl rfl) (fun _ _ h => h)) ?_
        refine And.intro (ob_indexAddr rfl (wt_none rfl) (ev_dep (j := 0) (by kernel_rfl) rfl rfl) (ev_dep (j := 1) (by kernel_rfl) rfl rfl) (fun _ _ _ hx hy => ⟨_, by rw [hx, hy]; exact index3_any Tryz.underlying39 (by kernel_rfl) ad hlt1 _, rfl⟩)) ?_
        refine And.intro (ob_load rfl (wt_none rfl) (ev_dep (j := 2) (by kernel_rfl) rfl rfl) (fun w2 hb => load3_any Tryz.underlying46 rfl (by kernel_rfl) ((hb.cell (World.block_lt_of_cell? wr _ e0)).trans e0) ((hb.cell (World.block_lt_of_cell? wr _ e1)).trans e1) ((hb.cell (World.block_lt_of_cell? wr _ e2)).trans e2)) (fun _ _ => rfl)) ?_
        refine And.intro (ob_call2 rfl Tryz.func40 (by kernel_rfl) (wt_none rfl) (ev_dep (j := 3) (by kernel_rfl) rfl rfl) (ev_const _) (fun w2 u0 u1 hb h0 h1 => by obtain rfl := h0; obtain rfl := h1; exact (HQ.out ▸ qclean_any b _ _ l m 1 1 _ rfl (hu.below hb) lu (ht.below hb) lt (by omega) (by omega)).mono fun e w3 h => RetQ.pd h hb.size)) ?_
        refine And.intro (ob_alloc (z := .agg #[.bool false, .slice none 0 0, .slice none 0 0]) rfl rfl (fun _ => by kernel_rfl) (fun _ _ hB h => ⟨_, rfl, hB, h⟩)) ?_
        trivial
      case done1 =>
        refine fun w2 hb2 v0 h0 v1 h1 v2 h2 v3 h3 v4 h4 v5 h5 d5 b hbf => ?_
        obtain rfl := h0; obtain rfl := h1; obtain rfl := h2; obtain rfl := h3
        obtain ⟨q4, f4⟩ := h4
        obtain ⟨g1_5, rfl, hg5, B5⟩ := h5
        simp only [Act.put, List.setIfInBounds_toArray, List.set_cons_zero, List.set_cons_succ] at hbf
        subst hbf
        replace bb := bb.trans (hb2.mono bb.size)
        have hsz2 := bb.size
        replace bl := bl.trans (hb2.mono bl.size)
        have BA9 := B5
        obtain ⟨u4, t4, rfl, q4, d4⟩ := q4
        obtain ⟨A7, c7, rfl, _⟩ := id q4
        obtain ⟨D7, e7, rfl, _⟩ := id d4
        refine ops_store (i := 6) rfl rfl rfl rfl rfl rfl (cells := [.bool (ngB (q).num), .slice A7 (digs 4294967296 (q).num.natAbs).length c7, .slice D7 (digs 4294967296 (q).den).length e7]) rfl BA9 rfl (by kernel_rfl) (one3 rfl rfl rfl) fun w3 hg3 BN3 => ?_
        replace q4 := off q4 BA9 no_ints3 hg3
        replace d4 := off d4 BA9 no_ints3 hg3
        replace bb := bb.trans ((Below.refl _ _).grown hg3 bb.size (fun g hg => by injection hg with hg; omega))
        have hsz3 := bb.size
        have B7 : Blk w3 (g1_5) _ _ := BN3
        have k7s := q4
        have k7d := d4
        have k7z : IsZ w3 (.agg #[.bool (ngB (q).num), .slice A7 (digs 4294967296 (q).num.natAbs).length c7]) ((q).num) := ⟨_, rfl, k7s⟩
        have k7 : IsQ w3 (.agg #[.bool (ngB (q).num), .slice A7 (digs 4294967296 (q).num.natAbs).length c7, .slice D7 (digs 4294967296 (q).den).length e7]) (q) := ⟨_, _, rfl, k7s, k7d⟩
        have hq_ := bl.size
        replace bl := bl.trans ((Below.refl _ _).grown hg3 bl.size (fun g hg => by injection hg with hg; omega))
        clear hq_
        refine ops_done ?_
        have g1 := (f4 _ _ _ rfl).1
        have g2 := (f4 _ _ _ rfl).2
        have under4 := hTR.1.under
        have under5 := hTR.2.1.under
        have far4 : Far u4 (.slice A7 (digs 4294967296 (q).num.natAbs).length c7) ∧ Far u4 (.slice D7 (digs 4294967296 (q).den).length e7) := ⟨g1.far under4, g2.far under4⟩
        have far5 : Far u5 (.slice A7 (digs 4294967296 (q).num.natAbs).length c7) ∧ Far u5 (.slice D7 (digs 4294967296 (q).den).length e7) := ⟨g1.far under5, g2.far under5⟩
        have hT2 := hTR.below bl
        have HT2 := Lib.hid hT2
        have hr4 : RowF 46 w3 w.heap.size u4 ps := hT2.1
        have hszT : w.heap.size ≤ w3.heap.size := hT2.2.2.2.2.2.size
        have hne4 : u4.ownBlock ≠ some g1_5 := fun e => by have := under4 _ e; omega
        obtain ⟨x70, x71, x72, _, _, _⟩ := three B7
        obtain ⟨P1, hP1⟩ : ∃ P1 : Elt, P1 = (q, .slice A7 (digs 4294967296 (q).num.natAbs).length c7, .slice D7 (digs 4294967296 (q).den).length e7) := ⟨_, rfl⟩
        have HP1 := Lib.hid hP1
        have k7d_ : IsE .u64 4294967296 w3 (q, .slice A7 (digs 4294967296 (q).num.natAbs).length c7, .slice D7 (digs 4294967296 (q).den).length e7) := ⟨k7s, k7d⟩
        have lq3 : lenQ q 30000 := ⟨Nat.le_trans lq.1 (by decide), Nat.le_trans lq.2 (by decide)⟩
        have HL8 : Hid (ps.length ≤ 1000000000 ∧ rs.length ≤ 1000000000) := by
          have h1 := HPL.out
          have h2 := congrArg List.length HRP.out
          rw [List.length_map, List.length_map] at h2
          exact ⟨by omega, by omega⟩
        clear hT2 hTR e0 e1 e2 hu ht lu lt hP1
        obtain ⟨cA0, cA1, cA2⟩ := new_cells w3 46 (.bool (ngB (q).num)) (.slice A7 (digs 4294967296 (q).num.natAbs).length c7) (.slice D7 (digs 4294967296 (q).den).length e7)
        have bA := below_alloc (w := w3) (Nat.le_refl _) (.cells #[.bool (ngB (q).num), .slice A7 (digs 4294967296 (q).num.natAbs).length c7, .slice D7 (digs 4294967296 (q).den).length e7] 46)
        obtain ⟨wA, hwA⟩ : ∃ wA, wA = w3.alloc (.cells #[.bool (ngB (q).num), .slice A7 (digs 4294967296 (q).num.natAbs).length c7, .slice D7 (digs 4294967296 (q).den).length e7] 46) := ⟨_, rfl⟩
        have HWA := Lib.hid hwA
        rw [← hwA] at cA0 cA1 cA2 bA
        replace bA := bA.drew
        have rA := hr4.below bA
        have eA := k7d_.below bA
        have tA := HT2.out.below bA
        have BA_ := B7.below bA
        have hszA : w.heap.size ≤ wA.drew.heap.size := tA.2.2.2.2.2.size
        have TA := Lib.hid tA
        clear tA
        subst hwA
        obtain ⟨xA0, xA1, xA2, _, _, _⟩ := three BA_
        go_upto_region 6 with (fail)
        go_region_law (first
          | (refine step_append_q rfl (.tmp 28) (.tmp 30) rfl Tryz.underlying39 info_rat (v := u4) (p := (q, .slice A7 (digs 4294967296 (q).num.natAbs).length c7, .slice D7 (digs 4294967296 (q).den).length e7)) (ps := ps) (by rfl) (by exact rA) (ad := ⟨w3.heap.size, 0, none⟩) (c := 1) (by rfl) (by exact cA0) (by exact cA1) (by exact cA2) rfl rfl HL8.out.1 (by exact hszA) ?_; intro v5 w5 row5 bb5 HK5; have T5 := Lib.hid (TA.out.one row5 HK5.out bb5 eA far4 far5); have s5 := (HK5.out.1 _ _ _ eA.1 far4.1).1; have d5 := (HK5.out.1 _ _ _ eA.2 far4.2).1; have B5_ := BA_.other HK5.out.2.1 hne4; obtain ⟨x50, x51, x52, _, _, _⟩ := three B5_)
          | (go_simp; go_at_call 41; refine (qoff_any _ q _ ⟨_, _, rfl, (by exact s5), (by exact d5)⟩ lq3).mono ?_; rintro e w6 ⟨v6, rfl, k6, f6, b6⟩; have T6 := Lib.hid (T5.out.below b6); have row6 := T6.out.2.1; obtain ⟨u6, t6, rfl, q6, d6⟩ := k6; obtain ⟨A6, c6, rfl, _⟩ := id q6; obtain ⟨D6, e6, rfl, _⟩ := id d6; have hsz6 : w.heap.size ≤ w6.heap.size := T6.out.2.2.2.2.2.size; obtain ⟨cC0, cC1, cC2⟩ := new_cells w6 63 (.bool (ngB (q).num)) (.slice A6 (digs 10000 (q).num.natAbs).length c6) (.slice D6 (digs 10000 (q).den).length e6); have rC := row6.below (below_alloc (Nat.le_refl _) (.cells #[.bool (ngB (q).num), .slice A6 (digs 10000 (q).num.natAbs).length c6, .slice D6 (digs 10000 (q).den).length e6] 63)); have hszC := Nat.le_trans hsz6 (below_alloc (w := w6) (Nat.le_refl _) (.cells #[.bool (ngB (q).num), .slice A6 (digs 10000 (q).num.natAbs).length c6, .slice D6 (digs 10000 (q).den).length e6] 63)).size)
          | (refine step_append_q rfl (.tmp 32) (.tmp 35) rfl Tryz.underlying48 info_q (v := u5) (p := (q, .slice A6 (digs 10000 (q).num.natAbs).length c6, .slice D6 (digs 10000 (q).den).length e6)) (ps := rs) (by rfl) (by exact rC) (ad := ⟨w6.heap.size, 0, none⟩) (c := 1) (by rfl) (by exact cC0) (by exact cC1) (by exact cC2) rfl rfl HL8.out.2 (by exact hszC) ?_; intro v7 w7 row7 bb7 HK7))
        all_goals
          have ba6 := below_alloc (w := w6) (Nat.le_refl _) (.cells #[.bool (ngB (q).num), .slice A6 (digs 10000 (q).num.natAbs).length c6, .slice D6 (digs 10000 (q).den).length e6] 63)
          have TC := T6.out.below ba6
          have EC : IsE .i64 10000 (w6.alloc (.cells #[.bool (ngB (q).num), .slice A6 (digs 10000 (q).num.natAbs).length c6, .slice D6 (digs 10000 (q).den).length e6] 63)) (q, .slice A6 (digs 10000 (q).num.natAbs).length c6, .slice D6 (digs 10000 (q).den).length e6) := ⟨q6.below ba6, d6.below ba6⟩
          have j1 := (f6 _ _ _ rfl).1
          have j2 := (f6 _ _ _ rfl).2
          have n4 := T5.out.1.under
          have n5 := T5.out.2.1.under
          have T7 := TC.two row7 HK7.out bb7 EC ⟨j1.far n4, j2.far n4⟩ ⟨j1.far n5, j2.far n5⟩
          have NP7 := hNP.snoc (p := (q, .slice A7 (digs 4294967296 (q).num.natAbs).length c7, .slice D7 (digs 4294967296 (q).den).length e7)) (g1.mono hszr) (g2.mono hszr)
          have hs5 : w.heap.size ≤ w5.heap.size := T5.out.2.2.2.2.2.size
          have NR7 := hNR.snoc (p := (q, .slice A6 (digs 10000 (q).num.natAbs).length c6, .slice D6 (digs 10000 (q).den).length e6)) (j1.mono hs5) (j2.mono hs5)
          have HPL7 : Hid ((ps ++ [((q, .slice A7 (digs 4294967296 (q).num.natAbs).length c7, .slice D7 (digs 4294967296 (q).den).length e7) : Elt)]).length = k + 1) := by show _ = _; rw [List.length_append, HPL.out]; rfl
          have HRP7 : Hid ((rs ++ [((q, .slice A6 (digs 10000 (q).num.natAbs).length c6, .slice D6 (digs 10000 (q).den).length e6) : Elt)]).map (·.1) = (ps ++ [((q, .slice A7 (digs 4294967296 (q).num.natAbs).length c7, .slice D7 (digs 4294967296 (q).den).length e7) : Elt)]).map (·.1)) := by show _ = _; rw [List.map_append, List.map_append, HRP.out]; rfl
          have HLQ7 : Hid (∀ p ∈ ps ++ [((q, .slice A7 (digs 4294967296 (q).num.natAbs).length c7, .slice D7 (digs 4294967296 (q).den).length e7) : Elt)], lenQ p.1 1) := fun p hp => by
            rcases List.mem_append.1 hp with hp | hp
            · exact HLQ.out p hp
            · rw [List.mem_singleton.1 hp]; exact lq
          have hme : M - (k + 1) < M - k := by omega
          go_wp2
          go_roundw
          case rel => exact ⟨k + 1, _, _, by omega, by omega, HPL7, HRP7, HLQ7, T7, NP7, NR7, rfl⟩
          case measure => exact hme
    · have HEND : Hid (TwoRows w wr u4 u5 ps rs ∧ NewL w.heap.size ps ∧ NewL w.heap.size rs ∧ rs.map (·.1) = ps.map (·.1) ∧ ps.length = min n0 M ∧ (∀ p ∈ ps, lenQ p.1 1)) := ⟨hTR, hNP, hNR, HRP.out, by rw [HPL.out]; omega, HLQ.out⟩
      clear hTR HRP HLQ HPL hNP hNR
      have hx : ¬ k < n0 ∨ (k < n0 ∧ ¬ k < M) := by omega
      rcases hx with hx | ⟨hx1, hx2⟩
      all_goals
        go_wp2
        go_ret2
        exact ⟨_, _, ps, rs, rfl, HEND.out.1, HEND.out.2.1, HEND.out.2.2.1, HEND.out.2.2.2.1, HEND.out.2.2.2.2.1, HEND.out.2.2.2.2.2⟩
theorem RowF.weak {T : TypeId} {w : World} {base base' : Nat} {v : Value} {ps : List Elt} (h : RowF T w base v ps) (hb : base' ≤ base) : RowF T w base' v ps := by
  refine ⟨h.1, ?_⟩
  rcases h.2 with h2 | ⟨g, cap, cur, e, h1, h2⟩
  · exact .inl h2
  · exact .inr ⟨g, cap, cur, e, Nat.le_trans hb h1, h2⟩
theorem flat3_take : ∀ (ps : List Elt) (m : Nat), flat3 (ps.take m) = (flat3 ps).take (m * 3)
  | [], m => by simp [flat3]
  | p :: ps, 0 => by simp [flat3]
  | p :: ps, m + 1 => by
    rw [List.take_succ_cons, flat3_cons, flat3_cons, flat3_take ps m, show (m + 1) * 3 = m * 3 + 3 from by omega, List.take_append, cells3_len, List.take_of_length_le (l := cells3 p) (by rw [cells3_len]; omega), Nat.add_sub_cancel]
/-- A row's front is a row of the call's own. -/
theorem RowF.take {T : TypeId} {w : World} {base n c m : Nat} {A : Option Addr} {ps : List Elt} (h : RowF T w base (.slice A n c) ps) (hm : m ≤ ps.length) : RowF T w base (.slice A m c) (ps.take m) := by
  have hl : (ps.take m).length = m := by rw [List.length_take]; omega
  unfold RowF
  rw [hl]
  refine ⟨by rw [flat3_len, hl], ?_⟩
  rcases h.2 with ⟨e, h0⟩ | ⟨g, cap, cur, e, h1, h2, h3, h4, h5, h6⟩
  · injection e with e1 e2 e3
    subst e1; subst e3
    have : m = 0 := by omega
    subst this
    exact .inl ⟨rfl, rfl⟩
  · injection e with e1 e2 e3
    subst e1; subst e3
    refine .inr ⟨g, c, cur, rfl, h1, h2, by omega, h4, h5, ?_⟩
    rw [flat3_take, ← h6, List.take_take, Nat.min_eq_left (by omega)]
/-- A table whose rows the call owns, each in a block of its own, whatever its elements' limbs are. -/
structure TabK (T : TypeId) (w : World) (base : Nat) (TS : TypeId) (V : Value) (us : List Value) (pss : List (List Elt)) : Prop where
  row : RowV w base TS V us
  len : us.length = pss.length
  own : ∀ (i : Nat) (u : Value) (ps : List Elt), us[i]? = some u → pss[i]? = some ps → RowF T w base u ps
  apart : ∀ (i j : Nat) (u v : Value), i ≠ j → us[i]? = some u → us[j]? = some v → ∀ h, u.ownBlock = some h → v.ownBlock ≠ some h
theorem TabO.k {k : IntKind} {B : Nat} {T : TypeId} {w : World} {base : Nat} {TS : TypeId} {V : Value} {us : List Value} {pss : List (List Elt)} (h : TabO k B T w base TS V us pss) : TabK T w base TS V us pss := ⟨h.row, h.len, h.own, h.apart⟩
theorem TabK.mem {T : TypeId} {w : World} {base : Nat} {TS : TypeId} {V : Value} {us : List Value} {pss : List (List Elt)} (h : TabK T w base TS V us pss) {u : Value} (hu : u ∈ us) : ∃ ps, RowF T w base u ps := by
  obtain ⟨i, hi⟩ := List.mem_iff_getElem?.1 hu
  have hp : pss[i]? = some (pss[i]'(by rw [← h.len]; exact (List.getElem?_eq_some_iff.1 hi).1)) := List.getElem?_eq_getElem _
  exact ⟨_, h.own i u _ hi hp⟩
theorem RowV.kept {w w' : World} {base : Nat} {TS : TypeId} {V : Value} {us : List Value} {row : Option Nat} (h : RowV w base TS V us) (hg : w.grownBy w' row) (hV : ∀ g, V.ownBlock = some g → row ≠ some g) : RowV w' base TS V us :=
  World.ownsRow.kept (row := row) h hg (by
    cases hv : V.ownBlock with
    | none => exact .inl rfl
    | some g => exact .inr fun e => hV g hv e.symm)
theorem TabK.kept {T : TypeId} {w w' : World} {base : Nat} {TS : TypeId} {V : Value} {us : List Value} {pss : List (List Elt)} {row : Option Nat} (h : TabK T w base TS V us pss) (hg : w.grownBy w' row) (hV : ∀ g, V.ownBlock = some g → row ≠ some g) (hu : ∀ u ∈ us, ∀ g, u.ownBlock = some g → row ≠ some g) : TabK T w' base TS V us pss :=
  ⟨RowV.kept h.row hg hV, h.len, fun i u ps hi hp => (h.own i u ps hi hp).other hg (fun g e => hu u (List.mem_of_getElem? hi) g e), h.apart⟩
theorem TabK.below {T : TypeId} {w w' : World} {base : Nat} {TS : TypeId} {V : Value} {us : List Value} {pss : List (List Elt)} (h : TabK T w base TS V us pss) (hb : Below w.heap.size w w') : TabK T w' base TS V us pss :=
  ⟨h.row.below hb, h.len, fun i u ps hi hp => (h.own i u ps hi hp).below hb, h.apart⟩
theorem TabO.kept {k : IntKind} {B : Nat} {T : TypeId} {w w' : World} {base : Nat} {TS : TypeId} {V : Value} {us : List Value} {pss : List (List Elt)} {row : Option Nat} (h : TabO k B T w base TS V us pss) (hg : w.grownBy w' row) (hV : ∀ g, V.ownBlock = some g → row ≠ some g) (hu : ∀ u ∈ us, ∀ g, u.ownBlock = some g → row ≠ some g)
    (hf : ∀ ps ∈ pss, ∀ p ∈ ps, (∀ ad n c, p.2.1 = .slice (some ad) n c → 0 < n → some ad.block ≠ row) ∧ (∀ ad n c, p.2.2 = .slice (some ad) n c → 0 < n → some ad.block ≠ row)) : TabO k B T w' base TS V us pss := by
  have hk := h.k.kept hg hV hu
  refine ⟨hk.row, hk.len, hk.own, fun u hu' ps hp p hpp => ?_, fun ps hp p hpp => ?_, hk.apart⟩
  · obtain ⟨e1, f1⟩ := h.far u hu' ps hp p hpp
    exact ⟨⟨e1.1.farKept (hf ps hp p hpp).1 hg, e1.2.farKept (hf ps hp p hpp).2 hg⟩, f1⟩
  · obtain ⟨e1, f1⟩ := h.farV ps hp p hpp
    exact ⟨⟨e1.1.farKept (hf ps hp p hpp).1 hg, e1.2.farKept (hf ps hp p hpp).2 hg⟩, f1⟩
/-- A row of the call's own is put behind the others. -/
theorem TabO.snoc {k : IntKind} {B : Nat} {T : TypeId} {w w' : World} {base : Nat} {TS : TypeId} {V V' u : Value} {us : List Value} {pss : List (List Elt)} {ps : List Elt} (hT : T ≠ TS) (h : TabO k B T w base TS V us pss) (hrow : RowV w' base TS V' (us ++ [u])) (hg : Grew w w' V V') (hu : RowF T w base u ps)
    (hap : ∀ v ∈ us, ∀ g, v.ownBlock = some g → u.ownBlock ≠ some g) (hf1 : FarF k B w u ps) (hf2 : ∀ v ∈ us, ∀ p ∈ ps, Far v p.2.1 ∧ Far v p.2.2) (hf3 : ∀ p ∈ ps, Far V p.2.1 ∧ Far V p.2.2) (hf4 : ∀ qs ∈ pss, ∀ p ∈ qs, Far u p.2.1 ∧ Far u p.2.2) : TabO k B T w' base TS V' (us ++ [u]) (pss ++ [ps]) := by
  obtain ⟨k1, k2, k3⟩ := hg
  have hlen := h.len
  have own' : ∀ {v : Value} {qs : List Elt}, RowF T w base v qs → RowF T w' base v qs := fun r => r.other k2 fun g e e2 => r.notRow h.row hT g e e2
  have at_ : ∀ {i : Nat} {v : Value}, (us ++ [u])[i]? = some v → (us[i]? = some v ∧ i < us.length) ∨ (i = us.length ∧ v = u) := by
    intro i v hi
    by_cases hl : i < us.length
    · rw [List.getElem?_append_left hl] at hi
      exact .inl ⟨hi, hl⟩
    · rw [List.getElem?_append_right (by omega)] at hi
      rcases hj : i - us.length with _ | j
      · rw [hj] at hi
        refine .inr ⟨by omega, ?_⟩
        simpa using hi.symm
      · rw [hj] at hi; simp at hi
  have all : ∀ qs ∈ pss ++ [ps], ∀ p ∈ qs, (IsE k B w' p ∧ Far V' p.2.1 ∧ Far V' p.2.2) ∧ (∀ v ∈ us, Far v p.2.1 ∧ Far v p.2.2) ∧ Far u p.2.1 ∧ Far u p.2.2 := by
    intro qs hqs p hp
    have main : IsE k B w p → Far V p.2.1 → Far V p.2.2 → IsE k B w' p ∧ Far V' p.2.1 ∧ Far V' p.2.2 := fun a b c => by
      have x1 := k1 _ _ _ a.1 b
      have x2 := k1 _ _ _ a.2 c
      exact ⟨⟨x1.1, x2.1⟩, x1.2, x2.2⟩
    rcases List.mem_append.1 hqs with hqs | hqs
    · obtain ⟨e1, f1, f2⟩ := h.farV qs hqs p hp
      exact ⟨main e1 f1 f2, fun v hv => (h.far v hv qs hqs p hp).2, hf4 qs hqs p hp⟩
    · rw [List.mem_singleton.1 hqs] at hp
      obtain ⟨e1, f1, f2⟩ := hf1 p hp
      exact ⟨main e1 (hf3 p hp).1 (hf3 p hp).2, fun v hv => hf2 v hv p hp, f1, f2⟩
  refine ⟨hrow, by rw [List.length_append, List.length_append, hlen]; rfl, fun i v qs hv hq => ?_, fun v hv qs hqs p hp => ?_, fun qs hqs p hp => (all qs hqs p hp).1, fun i j a b hij ha hb g hga hgb => ?_⟩
  · rcases at_ hv with ⟨hv, hl⟩ | ⟨rfl, rfl⟩
    · rw [List.getElem?_append_left (by omega)] at hq
      exact own' (h.own i v qs hv hq)
    · rw [List.getElem?_append_right (by omega), hlen, Nat.sub_self] at hq
      obtain rfl : ps = qs := by simpa using hq
      exact own' hu
  · refine ⟨(all qs hqs p hp).1.1, ?_⟩
    rcases List.mem_append.1 hv with hv | hv
    · exact (all qs hqs p hp).2.1 v hv
    · rw [List.mem_singleton.1 hv]; exact (all qs hqs p hp).2.2
  · rcases at_ ha with ⟨ha1, hl⟩ | ⟨hi, rfl⟩
    · rcases at_ hb with ⟨hb1, hl2⟩ | ⟨hj, rfl⟩
      · exact h.apart i j a b hij ha1 hb1 g hga hgb
      · exact hap a (List.mem_of_getElem? ha1) g hga hgb
    · rcases at_ hb with ⟨hb1, hl2⟩ | ⟨hj, rfl⟩
      · exact hap b (List.mem_of_getElem? hb1) g hgb hga
      · exact hij (by omega)
set_option linter.unusedSimpArgs false
theorem ArgT.shape {w : World} {v : Value} (h : ArgT w v) : ∃ A n c, v = .slice A n c ∧ n ≤ c ∧ c ≤ maxLen := by
  obtain ⟨A, n, c, e, h1, h2, _⟩ := h
  exact ⟨A, n, c, e, h1, h2⟩
theorem RowV.notV {w : World} {base base' : Nat} {TS TS' : TypeId} {V U : Value} {us vs : List Value} (h : RowV w base TS V us) (h' : RowV w base' TS' U vs) (hne : TS ≠ TS') : ∀ g, V.ownBlock = some g → U.ownBlock ≠ some g := by
  intro g e e2
  rcases h.2 with ⟨rfl, _⟩ | ⟨g', cap, cur, rfl, _, hg, _⟩
  · cases e
  · rcases h'.2 with ⟨rfl, _⟩ | ⟨g2, cap2, cur2, rfl, _, hg2, _⟩
    · cases e2
    · have e1 : g' = g := by simpa [Value.ownBlock] using e
      have e3 : g2 = g := by simpa [Value.ownBlock] using e2
      subst e1; subst e3
      rw [hg] at hg2
      injection hg2 with hg2
      injection hg2 with _ hg2
      exact hne hg2
theorem RowV.slice {w : World} {base : Nat} {TS : TypeId} {V : Value} {us : List Value} (h : RowV w base TS V us) : ∃ A c, V = .slice A us.length c := by
  rcases h.2 with ⟨e, h0⟩ | ⟨g, cap, cur, e, _⟩
  · exact ⟨none, 0, by rw [e, h0]⟩
  · exact ⟨_, _, e⟩
/-- Two tables that grow side by side: each one's limbs lie elsewhere than both tables and all rows. -/
structure TwoTabO (w wr : World) (V U : Value) (us vs : List Value) (pss qss : List (List Elt)) : Prop where
  p : TabO .u64 4294967296 46 wr w.heap.size 39 V us pss
  q : TabO .i64 10000 63 wr w.heap.size 48 U vs qss
  c1 : ∀ ps ∈ pss, ∀ p ∈ ps, (∀ v ∈ vs, Far v p.2.1 ∧ Far v p.2.2) ∧ Far U p.2.1 ∧ Far U p.2.2
  c2 : ∀ qs ∈ qss, ∀ p ∈ qs, (∀ v ∈ us, Far v p.2.1 ∧ Far v p.2.2) ∧ Far V p.2.1 ∧ Far V p.2.2
  below : Below w.heap.size w wr
theorem TwoTabO.step {w wr w2 w3 w4 : World} {V U a b V3 U4 : Value} {us vs : List Value} {pss qss : List (List Elt)} {ps rs : List Elt} (h : TwoTabO w wr V U us vs pss qss) (hT : TwoRows wr w2 a b ps rs) (n1 : NewL wr.heap.size ps) (n2 : NewL wr.heap.size rs) (r3 : RowV w3 w.heap.size 39 V3 (us ++ [a])) (g3 : Grew w2 w3 V V3) (b3 : Below w.heap.size w2 w3) (r4 : RowV w4 w.heap.size 48 U4 (vs ++ [b])) (g4 : Grew w3 w4 U U4) (b4 : Below w.heap.size w3 w4) :
    TwoTabO w w4 V3 U4 (us ++ [a]) (vs ++ [b]) (pss ++ [ps]) (qss ++ [rs]) := by
  obtain ⟨t1, t2, ⟨t3, t4⟩, ⟨t5, t6⟩, t7, b2⟩ := hT
  have hw : w.heap.size ≤ wr.heap.size := h.below.size
  have pu : ∀ v ∈ us, ∀ g, v.ownBlock = some g → g < wr.heap.size := fun v hv g e => by
    obtain ⟨qs, hq⟩ := h.p.k.mem hv
    exact hq.under g e
  have qu : ∀ v ∈ vs, ∀ g, v.ownBlock = some g → g < wr.heap.size := fun v hv g e => by
    obtain ⟨qs, hq⟩ := h.q.k.mem hv
    exact hq.under g e
  have pV := h.p.row.under
  have qU := h.q.row.under
  have a0 := t1.base_le
  have b0 := t2.base_le
  have p2 := h.p.below b2
  have q2 := h.q.below b2
  have oldp : ∀ qs ∈ pss, ∀ p ∈ qs, IsE .u64 4294967296 wr p := fun qs hq p hp => (h.p.farV qs hq p hp).1
  have oldq : ∀ qs ∈ qss, ∀ p ∈ qs, IsE .i64 10000 wr p := fun qs hq p hp => (h.q.farV qs hq p hp).1
  have P3 := p2.snoc (by decide) r3 g3 (t1.weak hw) (fun v hv g e e2 => by have := pu v hv g e; have := a0 g e2; omega) t3 (fun v hv => n1.far (pu v hv)) (n1.far pV) (fun qs hq p hp => ⟨(oldp qs hq p hp).1.farOld a0, (oldp qs hq p hp).2.farOld a0⟩)
  have Q3 := q2.kept g3.2.1 (fun g e e2 => RowV.notV p2.row q2.row (by decide) g e2 e) (fun v hv g e e2 => by
    obtain ⟨qs, hq⟩ := q2.k.mem hv
    exact hq.notRow p2.row (by decide) g e e2) (fun qs hq p hp => ⟨(h.c2 qs hq p hp).2.1, (h.c2 qs hq p hp).2.2⟩)
  have hb3 : RowF 63 w3 wr.heap.size b rs := t2.other g3.2.1 fun g e e2 => t2.notRow p2.row (by decide) g e e2
  have n2V := n2.far pV
  have e3 : ∀ p ∈ rs, IsE .i64 10000 w3 p ∧ Far V3 p.2.1 ∧ Far V3 p.2.2 := fun p hp => by
    have x1 := g3.1 _ _ _ (t6 p hp).1.1 (n2V p hp).1
    have x2 := g3.1 _ _ _ (t6 p hp).1.2 (n2V p hp).2
    exact ⟨⟨x1.1, x2.1⟩, x1.2, x2.2⟩
  have Q4 := Q3.snoc (by decide) r4 g4 (hb3.weak hw) (fun v hv g e e2 => by have := qu v hv g e; have := b0 g e2; omega) (fun p hp => ⟨(e3 p hp).1, (t6 p hp).2⟩) (fun v hv => n2.far (qu v hv)) (n2.far qU) (fun qs hq p hp => ⟨(oldq qs hq p hp).1.farOld b0, (oldq qs hq p hp).2.farOld b0⟩)
  have n1U := n1.far qU
  have c1U : ∀ qs ∈ pss ++ [ps], ∀ p ∈ qs, Far U p.2.1 ∧ Far U p.2.2 := fun qs hq p hp => by
    rcases List.mem_append.1 hq with hq | hq
    · exact (h.c1 qs hq p hp).2
    · rw [List.mem_singleton.1 hq] at hp; exact n1U p hp
  have P4 := P3.kept g4.2.1 (fun g e e2 => RowV.notV P3.row Q3.row (by decide) g e e2) (fun v hv g e e2 => by
    obtain ⟨qs, hq⟩ := P3.k.mem hv
    exact hq.notRow Q3.row (by decide) g e e2) c1U
  refine ⟨P4, Q4, fun qs hq p hp => ?_, fun qs hq p hp => ?_, h.below.trans ((b2.mono hw).trans (b3.trans b4))⟩
  · have eU : Far U4 p.2.1 ∧ Far U4 p.2.2 := by
      have e1 := (P3.farV qs hq p hp).1
      exact ⟨(g4.1 _ _ _ e1.1 (c1U qs hq p hp).1).2, (g4.1 _ _ _ e1.2 (c1U qs hq p hp).2).2⟩
    refine ⟨fun v hv => ?_, eU⟩
    rcases List.mem_append.1 hq with hq | hq
    · rcases List.mem_append.1 hv with hv | hv
      · exact (h.c1 qs hq p hp).1 v hv
      · rw [List.mem_singleton.1 hv]; exact ⟨(oldp qs hq p hp).1.farOld b0, (oldp qs hq p hp).2.farOld b0⟩
    · rw [List.mem_singleton.1 hq] at hp
      rcases List.mem_append.1 hv with hv | hv
      · exact n1.far (qu v hv) p hp
      · rw [List.mem_singleton.1 hv]; exact (t4 p hp).2
  · rcases List.mem_append.1 hq with hq | hq
    · have eV : Far V3 p.2.1 ∧ Far V3 p.2.2 := by
        have e1 := (q2.farV qs hq p hp).1
        have f := (h.c2 qs hq p hp).2
        exact ⟨(g3.1 _ _ _ e1.1 f.1).2, (g3.1 _ _ _ e1.2 f.2).2⟩
      refine ⟨fun v hv => ?_, eV⟩
      rcases List.mem_append.1 hv with hv | hv
      · exact (h.c2 qs hq p hp).1 v hv
      · rw [List.mem_singleton.1 hv]; exact ⟨(oldq qs hq p hp).1.farOld a0, (oldq qs hq p hp).2.farOld a0⟩
    · rw [List.mem_singleton.1 hq] at hp
      refine ⟨fun v hv => ?_, (e3 p hp).2⟩
      rcases List.mem_append.1 hv with hv | hv
      · exact n2.far (pu v hv) p hp
      · rw [List.mem_singleton.1 hv]; exact (t5 p hp).2
/-- Two tables of the call's own, of the same small fractions, so many rows of so many places at most. -/
def RetFewX (M : Nat) (w : World) (e : Ending) (w' : World) : Prop := ∃ V U us vs pss qss, e = .returned (.tuple #[V, U]) ∧ TwoTabO w w' V U us vs pss qss ∧ valq qss = valq pss ∧ us.length ≤ M ∧ (∀ r ∈ valq pss, r.length ≤ M ∧ ∀ x ∈ r, lenQ x 1)
set_option maxHeartbeats 6400000 in
set_option maxRecDepth 100000 in
theorem fewt_own (a0 : Value) (M : Nat) (w : World) (h0 : ArgT w a0) (hM : M ≤ 8) :
    Calls Tryz.prog 7 #[a0, .int .i64 (M : Int)] w (RetFewX M w) := by
  have at0 := h0
  obtain ⟨A0, n0, c0, rfl, hc0, hm0⟩ := h0.shape
  unfold maxLen at hm0
  go_enter Tryz.func7, Tryz.ntmps7
  go_wp2
  go_loopw [6, 7, 8] (fun v6 v7 v8 wr => ∃ (k : Nat) (us vs : List Value) (pss qss : List (List Elt)), k ≤ n0 ∧ k ≤ M ∧ Hid (us.length = k) ∧ TwoTabO w wr v6 v7 us vs pss qss ∧ Hid (valq qss = valq pss) ∧ Hid (∀ r ∈ valq pss, r.length ≤ M ∧ ∀ x ∈ r, lenQ x 1) ∧ v8 = .int .i64 (k : Int)) (fun _ _ v8 _ => M - (intOf v8).toNat)
  case atStart =>
    have r0 := rowV_lit0 w w.heap.size 39 (Nat.le_refl _)
    have ba := below_alloc (w := w) (Nat.le_refl _) (.cells #[] 39)
    have r1 := rowV_lit0 (w.alloc (.cells #[] 39)) w.heap.size 48 ba.size
    have bb := below_alloc (w := w.alloc (.cells #[] 39)) (Nat.le_refl _) (.cells #[] 48)
    refine ⟨0, [], [], [], [], by omega, by omega, rfl, ⟨⟨r0.below bb, rfl, fun i u ps hu => by simp at hu, fun u hu => by simp at hu, fun u hu => by simp at hu, fun i j u v _ hu => by simp at hu⟩, ⟨?_, rfl, fun i u ps hu => by simp at hu, fun u hu => by simp at hu, fun u hu => by simp at hu, fun i j u v _ hu => by simp at hu⟩, fun ps hp => by simp at hp, fun ps hp => by simp at hp, ba.trans (bb.mono ba.size)⟩, rfl, (by show ∀ r ∈ _, _; intro r hr; simp [valq] at hr), rfl⟩
    simpa using r1
  case round =>
    obtain ⟨k, us, vs, pss, qss, hk, hkM, HUL, hT, HQP, HVL, rfl⟩ := hrel
    obtain ⟨A6, c6, e6⟩ := RowV.slice hT.p.row
    obtain ⟨A7, c7, e7⟩ := RowV.slice hT.q.row
    subst e6
    subst e7
    by_cases hlt : k < n0 ∧ k < M
    · obtain ⟨hlt1, hlt2⟩ := hlt
      obtain ⟨A_, n_, c_, e_, _, _, hel⟩ := at0.below hT.below
      injection e_ with e1 e2 e3
      subst e1; subst e2; subst e3
      obtain ⟨ad, ue, rfl, ec, hq⟩ := hel k hlt1
      have HT := Lib.hid hT
      clear hel hT
      obtain ⟨Aq, nq, cq, rfl, _⟩ := id hq
      go_wp2_with fail
      refine (few11_two Aq nq cq M _ hq hM).mono ?_
      rintro e w2 ⟨a, b, ps, rs, rfl, hTR, n1, n2, hrs, hpl, hlq⟩
      have b2 := hTR.2.2.2.2.2
      have hw2 : w.heap.size ≤ w2.heap.size := Nat.le_trans HT.out.below.size b2.size
      have P2 := HT.out.p.row.below b2
      have Q2 := HT.out.q.row.below b2
      have HTR := Lib.hid hTR
      have HULb : Hid (us.length ≤ 1000000000 ∧ vs.length ≤ 1000000000) := by
        have h1 := HUL.out
        have h2 := congrArg List.length HQP.out
        rw [valq_len, valq_len, ← HT.out.q.len, ← HT.out.p.len] at h2
        exact ⟨by omega, by omega⟩
      obtain ⟨Aa, ca, ea, _⟩ := hTR.1.isVF
      obtain ⟨Ab, cb, eb, _⟩ := hTR.2.1.isVF
      subst ea
      subst eb
      have HPL := Lib.hid hpl
      clear hTR ec hpl
      go_wp2_with (first
        | (at_builtin; refine wpList_append_w rfl (.tmp 33) (.tmp 35) rfl Tryz.underlying22 info_vec rfl P2 rfl rfl HULb.out.1 hw2 ?_; intro V3 w3 row3 b3 K3; have Q3 : RowV w3 w.heap.size 48 (.slice A7 vs.length c7) vs := RowV.kept Q2 K3.out.2.1 (fun g e e2 => RowV.notV P2 Q2 (by decide) g e2 e); have hw3 : w.heap.size ≤ w3.heap.size := Nat.le_trans hw2 b3.size)
        | (at_builtin; refine wpList_append_w rfl (.tmp 37) (.tmp 39) rfl Tryz.underlying23 info_veq rfl Q3 rfl rfl HULb.out.2 hw3 ?_; intro U4 w4 row4 b4 K4))
      have T4 := HT.out.step HTR.out n1 n2 row3 K3.out b3 row4 K4.out b4
      have HUL4 : Hid ((us ++ [Value.slice Aa ps.length ca]).length = k + 1) := by show _ = _; rw [List.length_append, HUL.out]; rfl
      have HQP4 : Hid (valq (qss ++ [rs]) = valq (pss ++ [ps])) := by
        show _ = _
        have h1 := HQP.out
        unfold valq at h1 ⊢
        rw [List.map_append, List.map_append, h1, List.map_cons, List.map_cons, hrs]; try rfl
      have HVL4 : Hid (∀ r ∈ valq (pss ++ [ps]), r.length ≤ M ∧ ∀ x ∈ r, lenQ x 1) := by
        show ∀ r ∈ _, _
        intro r hr
        unfold valq at hr
        rw [List.map_append] at hr
        rcases List.mem_append.1 hr with hr | hr
        · exact HVL.out r hr
        · obtain rfl : r = ps.map (·.1) := by simpa using hr
          refine ⟨by rw [List.length_map, HPL.out]; omega, fun x hx => ?_⟩
          obtain ⟨p, hp, rfl⟩ := List.mem_map.1 hx
          exact hlq p hp
      have hsk : M - (k + 1) < M - k := by omega
      clear P2 Q2 Q3 K3 K4 row3 row4 n1 n2 hlq hrs HTR
      go_wp2
      go_roundw
      case rel => exact ⟨k + 1, _, _, _, _, by omega, by omega, HUL4, T4, HQP4, HVL4, by go_num⟩
      case measure => simp [intOf]; omega
    · have hx : ¬ k < n0 ∨ (k < n0 ∧ ¬ k < M) := by omega
      have HEND : Hid (RetFewX M w (.returned (.tuple #[.slice A6 us.length c6, .slice A7 vs.length c7])) wr) := ⟨_, _, us, vs, pss, qss, rfl, hT, HQP.out, by rw [HUL.out]; exact hkM, HVL.out⟩
      clear hT HQP HVL
      rcases hx with hx | ⟨hx1, hx2⟩
      all_goals
        go_wp2
        go_ret2
        exact HEND.out
/-- The same, read only. -/
def RetFewT (M : Nat) (w : World) (e : Ending) (w' : World) : Prop := ∃ V U p, e = .returned (.tuple #[V, U]) ∧ SlT .u64 4294967296 w' V p ∧ SlT .i64 10000 w' U p ∧ p.length ≤ M ∧ (∀ r ∈ p, r.length ≤ M) ∧ lenT p 1 ∧ Below w.heap.size w w'
theorem fewt_any (a0 : Value) (M : Nat) (w : World) (h0 : ArgT w a0) (hM : M ≤ 8) : Calls Tryz.prog 7 #[a0, .int .i64 (M : Int)] w (RetFewT M w) :=
  (fewt_own a0 M w h0 hM).mono fun e w' h => by
    obtain ⟨V, U, us, vs, pss, qss, h1, h2, h3, h4, h5⟩ := h
    refine ⟨V, U, valq pss, h1, h2.p.slT, by rw [← h3]; exact h2.q.slT, by rw [valq_len, ← h2.p.len]; exact h4, fun r hr => (h5 r hr).1, fun r hr => (h5 r hr).2, h2.below⟩
theorem flat3_find : ∀ (ps : List Elt) (j : Nat) (u : Value), (flat3 ps)[j]? = some u → ∃ i p, ps[i]? = some p ∧ ((j = i * 3 ∧ u = .bool (ngB p.1.num)) ∨ (j = i * 3 + 1 ∧ u = p.2.1) ∨ (j = i * 3 + 2 ∧ u = p.2.2))
  | [], j, u, h => by simp [flat3] at h
  | p :: ps, 0, u, h => ⟨0, p, rfl, .inl ⟨rfl, by simpa [flat3, cells3] using h.symm⟩⟩
  | p :: ps, 1, u, h => ⟨0, p, rfl, .inr (.inl ⟨rfl, by simpa [flat3, cells3] using h.symm⟩)⟩
  | p :: ps, 2, u, h => ⟨0, p, rfl, .inr (.inr ⟨rfl, by simpa [flat3, cells3] using h.symm⟩)⟩
  | p :: ps, j + 3, u, h => by
    have e : (flat3 (p :: ps))[j + 3]? = (flat3 ps)[j]? := by simp [flat3, cells3]
    rw [e] at h
    obtain ⟨i, q, hq, h2⟩ := flat3_find ps j u h
    refine ⟨i + 1, q, by simpa using hq, ?_⟩
    rcases h2 with ⟨a, b⟩ | ⟨a, b⟩ | ⟨a, b⟩
    · exact .inl ⟨by omega, b⟩
    · exact .inr (.inl ⟨by omega, b⟩)
    · exact .inr (.inr ⟨by omega, b⟩)
section
variable {P : Program}
theorem run_append_zero {w : World} {t ty T : TypeId} (hT : P.underlying t = some (.slice T)) (hI : ∃ i, P.info? T = some i ∧ i.zero = some (.agg #[.bool false, .slice none 0 0, .slice none 0 0]) ∧ i.size = 3 ∧ i.bytes = 56) {A : Option Addr} {n c : Nat} (hn : n ≤ c) :
    (Builtin.append_ #[t, t] ty #[.slice A n c, .slice none 0 0]).run P w = .ok (.slice A n c) w := by
  obtain ⟨i, hi, hz, hs, hb⟩ := hI
  cases A with
  | none => simp [Builtin.append_, go_sem, run_underlying hT, sizeOf, typeInfo, hi, Builtin.lenOf, Builtin.firstCells, hn]
  | some a => simp [Builtin.append_, go_sem, run_underlying hT, sizeOf, typeInfo, hi, Builtin.lenOf, Builtin.firstCells, hn, storeCells]
theorem run_append_qs {w : World} {base : Nat} {t ty T : TypeId} (hT : P.underlying t = some (.slice T)) (hI : ∃ i, P.info? T = some i ∧ i.zero = some (.agg #[.bool false, .slice none 0 0, .slice none 0 0]) ∧ i.size = 3 ∧ i.bytes = 56) {v u : Value} {ps qs : List Elt} (hown : RowF T w base v ps) (hu : IsVF w u qs) (hone : ∀ p ∈ qs, p.2.1.oneCell' = true ∧ p.2.2.oneCell' = true) (hlen : ps.length ≤ 1000000000) (hlen2 : qs.length ≤ 1000000000) (hbase : base ≤ w.heap.size) :
    ∃ v' w', (Builtin.append_ #[t, t] ty #[v, u]).run P w = .ok v' w' ∧ RowF T w' base v' (ps ++ qs) ∧ Grew w w' v v' := by
  obtain ⟨A, c, rfl, hc, hm, hcells⟩ := hu
  obtain ⟨Av, cv, rfl, hcv, hmv, _⟩ := hown.isVF
  by_cases hq : qs = []
  · subst hq
    cases A with
    | none =>
      refine ⟨_, w, ?_, by rw [List.append_nil]; exact hown, Grew.of_below _ (Below.refl _ w)⟩
      by_cases hc0 : c = 0
      · subst hc0
        exact run_append_zero hT hI hcv
      · obtain ⟨i, hi, hz, hs, hb⟩ := hI
        cases Av with
        | none => simp [Builtin.append_, go_sem, run_underlying hT, sizeOf, typeInfo, hi, Builtin.lenOf, Builtin.firstCells, hcv]
        | some a => simp [Builtin.append_, go_sem, run_underlying hT, sizeOf, typeInfo, hi, Builtin.lenOf, Builtin.firstCells, hcv, storeCells]
    | some ad =>
      obtain ⟨i, hi, hz, hs, hb⟩ := hI
      obtain ⟨v', w', g1, g2, g3, _, g5⟩ := run_append_own_at (P := P) (w := w) base t ty T i (.agg #[.bool false, .slice none 0 0, .slice none 0 0]) 3 56 hT hi hz hs hb rfl (by decide) _ ps.length (flat3 ps) hown ad 0 c [] rfl (fun j a ha => by simp at ha) (fun a ha => by simp at ha) (by unfold maxLen; omega) (by omega) hbase
      refine ⟨v', w', g1, by unfold RowF; rw [List.append_nil]; simpa using g2, keeps_of g3 g5, g3, fun g hg hne e1 => ?_⟩
      rcases g5 with h | h
      · exact hne (h ▸ e1)
      · rw [h] at e1; injection e1 with e1; omega
  · obtain ⟨p0, hp0⟩ : ∃ p0, qs[0]? = some p0 := ⟨_, List.getElem?_eq_getElem (List.length_pos_iff.2 hq)⟩
    obtain ⟨g0, o0, rfl, _⟩ := hcells 0 p0 hp0
    obtain ⟨i, hi, hz, hs, hb⟩ := hI
    have hadd : ∀ j, (⟨g0, o0, none⟩ : Addr).add j = ⟨g0, o0 + j, none⟩ := by
      intro j
      unfold Addr.add
      by_cases h : j = 0
      · simp [h]
      · simp [h]
    obtain ⟨v', w', g1, g2, g3, _, g5⟩ := run_append_own_at (P := P) (w := w) base t ty T i (.agg #[.bool false, .slice none 0 0, .slice none 0 0]) 3 56 hT hi hz hs hb rfl (by decide) _ ps.length (flat3 ps) hown ⟨g0, o0, none⟩ qs.length c (flat3 qs) (flat3_len qs) (fun j a ha => by
      obtain ⟨k, p, hp, h⟩ := flat3_find qs j a ha
      obtain ⟨g', o', e, c0, c1, c2⟩ := hcells k p hp
      injection e with e
      injection e with e1 e2
      subst e1; subst e2
      rw [hadd]
      rcases h with ⟨rfl, rfl⟩ | ⟨rfl, rfl⟩ | ⟨rfl, rfl⟩
      · exact c0
      · rw [← Nat.add_assoc]; exact c1
      · rw [← Nat.add_assoc]; exact c2) (fun a ha => by
      obtain ⟨p, hp, hc⟩ := flat3_mem ha
      simp only [cells3, List.mem_cons, List.not_mem_nil, or_false] at hc
      rcases hc with rfl | rfl | rfl
      · rfl
      · exact (hone p hp).1
      · exact (hone p hp).2) (by unfold maxLen; omega) (by omega) hbase
    refine ⟨v', w', g1, by unfold RowF; rw [List.length_append, flat3, List.flatMap_append]; exact g2, keeps_of g3 g5, g3, fun g hg hne e1 => ?_⟩
    rcases g5 with h | h
    · exact hne (h ▸ e1)
    · rw [h] at e1; injection e1 with e1; omega
theorem step_append_qs {w : World} {ops : Array Oper} {o : Oper} {a : Act} {K : Act → World → Prop} {Q : Exit → Act → World → Prop} {E : Prop} (hgd : o.guard = none) (s x : Operand) {t : TypeId}
    (ho : o.op = .call { callee := .builtin .append, args := #[s, x], argTypes := #[t, t] })
    {base : Nat} {T : TypeId} (hT : P.underlying t = some (.slice T)) (hI : ∃ i, P.info? T = some i ∧ i.zero = some (.agg #[.bool false, .slice none 0 0, .slice none 0 0]) ∧ i.size = 3 ∧ i.bytes = 56) {v u : Value} {ps qs : List Elt} (hs : a.eval s = v) (hown : RowF T w base v ps) (hx : a.eval x = u) (hu : IsVF w u qs) (hone : ∀ p ∈ qs, p.2.1.oneCell' = true ∧ p.2.2.oneCell' = true) (hlen : ps.length ≤ 1000000000) (hlen2 : qs.length ≤ 1000000000) (hbase : base ≤ w.heap.size)
    (h : ∀ v' w', RowF T w' base v' (ps ++ qs) → Below base w w' → Hid (Grew w w' v v') → K (a.put o.dst v') w') :
    if Region.wanted o (yielded ops a.tmps) = true then Oper.wp P o a w K Q else E := by
  have hw : Region.wanted o (yielded ops a.tmps) = true := by simp [Region.wanted, hgd]
  rw [if_pos hw]
  obtain ⟨v', w', hrun, g2, g3⟩ := run_append_qs (P := P) (ty := o.type) hT hI hown hu hone hlen hlen2 hbase
  unfold Oper.wp execOp
  simp only [ho, resolve, invoke, builtin, Sem.run_bind, Sem.run_pure, Result.andThen_ok, List.map_toArray, List.map_cons, List.map_nil, hs, hx, hrun]
  exact h v' w' g2 ((Below.refl base w).grown g3.2.1 hbase hown.base_le) g3
/-- The same of one row, put behind a table's others. -/
theorem step_append_w {w : World} {ops : Array Oper} {o : Oper} {a : Act} {K : Act → World → Prop} {Q : Exit → Act → World → Prop} {E : Prop} (hgd : o.guard = none) (s x : Operand) {t : TypeId}
    (ho : o.op = .call { callee := .builtin .append, args := #[s, x], argTypes := #[t, t] })
    {base : Nat} {T : TypeId} (hT : P.underlying t = some (.slice T)) (hI : ∃ i, P.info? T = some i ∧ i.zero = some (.slice none 0 0) ∧ i.size = 1 ∧ i.bytes = 24) {v u : Value} {vs : List Value} (hs : a.eval s = v) (hown : RowV w base T v vs) {ad : Addr} {c : Nat} (hx : a.eval x = .slice (some ad) 1 c) (h0 : w.cell? (ad.add 0) = some u) (k1 : u.oneCell' = true) (hlen : vs.length ≤ 1000000000) (hbase : base ≤ w.heap.size)
    (h : ∀ v' w', RowV w' base T v' (vs ++ [u]) → Below base w w' → Hid (Grew w w' v v') → K (a.put o.dst v') w') :
    if Region.wanted o (yielded ops a.tmps) = true then Oper.wp P o a w K Q else E := by
  have hw : Region.wanted o (yielded ops a.tmps) = true := by simp [Region.wanted, hgd]
  rw [if_pos hw]
  exact wp_append_v s x ho hT hI hs hown hx h0 k1 hlen hbase h
end
end Go.Proofs.YtekpnbgchoccmaaGreat.rat
