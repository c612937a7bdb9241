/- AddrHas: whether any prefix may be, which addresses it has, its range and its mask. Condition: the arguments can be read as data. -/
import Derived.Test.YtbfflcpmagjlnaaDoorAdrV
import Derived.Deep.CutRange
import Derived.Test.YtbfflcpmagjlnaaDoorAdrU
import Derived.Deep.Cut
import Derived.Deep.RegionHeld
import Derived.Deep.RegionLaw
import Derived.Test.YtbfflcpmagjlnaaDoorCards
import Derived.Test.YtbfflcpmagjlnaaDoorTie
import Derived.OpenShut
import Derived.LaidMore
import Derived.MakeChecks
import Derived.Lay
import Derived.SevenTiedAt
import Derived.Stop.Joined
namespace Go.Proofs.YtbfflcpmagjlnaaDoor.addrHas
open Go.ChangeShapes Go.WideShapes Go.ChangeAt Go.RowKit Go.Proofs.YtbfflcpmagjlnaaDoor.num Go.Proofs.YtbfflcpmagjlnaaDoor.mem Go.Proofs.YtbfflcpmagjlnaaDoor.txt Go.Proofs.YtbfflcpmagjlnaaDoor.str Go.Proofs.YtbfflcpmagjlnaaDoor.adr Go.Proofs.YtbfflcpmagjlnaaDoor.flow
set_option linter.unusedVariables false
set_option linter.unusedSimpArgs false

theorem own : ownKnob Tryd.prog.godebug = none := by kernel_rfl
theorem laidOut : laidOutB Tryd.prog = true := by kernel_rfl


set_option maxHeartbeats 6400000 in
set_option maxRecDepth 100000 in
/-- The walk: the Go text returns true; what was there is as it was. -/
theorem walk (A0 L0 : Int) (A1 L1 : Int) (a2 : Int) (a3 : Int) (w : World) (ht : Tab w) (wA0 : (Lit.int .u32 A0).wf = true) (wL0 : (Lit.int .i64 L0).wf = true) (wA1 : (Lit.int .u32 A1).wf = true) (wL1 : (Lit.int .i64 L1).wf = true) (wf2 : (Lit.int .u32 a2).wf = true) (wf3 : (Lit.int .i64 a3).wf = true) :
    Calls Tryd.prog 4 #[.agg #[.int .u32 A0, .int .i64 L0], .agg #[.int .u32 A1, .int .i64 L1], .int .u32 a2, .int .i64 a3] w (RetV (.bool true) w) := by
  obtain ⟨A, rfl, hA⟩ := u32_of wA0
  obtain ⟨B, rfl, hB⟩ := u32_of wA1
  obtain ⟨a, rfl, ha⟩ := u32_of wf2
  obtain ⟨l0, l1⟩ := i64_of wL0
  obtain ⟨m0, m1⟩ := i64_of wL1
  obtain ⟨n0, n1⟩ := i64_of wf3
  have HT := Lib.hid ht
  clear ht wA0 wA1 wf2 wL0 wL1 wf3
  obtain ⟨f, g, hfg⟩ : ∃ f g, rngP A L0 = (f, g) := ⟨_, _, rfl⟩
  obtain ⟨f2, g2, hfg2⟩ : ∃ f g, rngP B L1 = (f, g) := ⟨_, _, rfl⟩
  obtain ⟨by1, hby1⟩ := bool_of (mayP A L0)
  obtain ⟨bh, hbh⟩ := bool_of (hasP A L0 a)
  obtain ⟨bw, hbw⟩ := bool_of (withinP A L0 B L1)
  have CR := fun w => range_any18 A L0 f g w hA l0 l1 hfg
  have CRr := fun w => rrange_any18 A L0 f g w hA l0 l1 hfg
  have CRr2 := fun w => rrange_any18 B L1 f2 g2 w hB m0 m1 hfg2
  have CY := fun w => may_any18 A L0 by1 w hA l0 l1 hby1
  have CYr := fun w => rmay_any18 A L0 by1 w hA l0 l1 hby1
  have CH := fun w => has_any18 A a L0 bh w hA ha l0 l1 hbh
  have CHr := fun w => rhas_any18 A a L0 bh w hA ha l0 l1 hbh
  have CW := fun w => within_any18 A B L0 L1 bw w hA hB l0 l1 m0 m1 hbw
  obtain ⟨k, hk⟩ : ∃ k, k = restN a3 := ⟨_, rfl⟩
  have CM := fun w => mask_any a3 k w n0 n1 hk
  have HK := Lib.hid hk
  have HFG := Lib.hid (And.intro hfg hfg2)
  have HBW := Lib.hid hbw
  obtain ⟨by2, hby2⟩ := bool_of (mayP B L1)
  have CYr2 := fun w => rmay_any18 B L1 by2 w hB m0 m1 hby2
  have HBY := Lib.hid (And.intro hby1 hby2)
  clear hby2 hk hfg hfg2 hbw hbh hby1
  go_enter Tryd.func4, Tryd.ntmps4
  go_upto_region 1 with (fail)
  have bb := Below.refl w.heap.size w
  obtain ⟨u1, hu1, x0, x1, c1, lt1, hP⟩ := pairboxB w 24 (.int .u32 (A : Int)) (.int .i64 L0)
  rw [hu1]
  have hsz : u1.heap.size = w.heap.size + 1 := by rw [← hu1, World.size_alloc]
  clear hu1
  replace bb := bb.trans (c1.mono bb.size)
  obtain ⟨u2, hu2, r0, r1, c2, lt2, hQ⟩ := pairboxB u1 24 (.int .u32 (B : Int)) (.int .i64 L1)
  rw [hu2]
  clear hu2
  replace x0 := (c2.cell (World.block_lt_of_cell? _ _ x0)).trans x0
  replace x1 := (c2.cell (World.block_lt_of_cell? _ _ x1)).trans x1
  replace hP := (c2.block _ lt1).trans hP
  replace bb := bb.trans (c2.mono bb.size)
  rw [hsz] at r0 r1 lt2 hQ
  have lt3 : w.heap.size < u2.heap.size := by omega
  clear c1 c2 hsz lt1
  go_wp2
  go_loop [9, 10] (fun v9 v10 => ∃ i M : Nat, i ≤ 32 ∧ v9 = .int .u32 (M : Int) ∧ v10 = .int .i64 (i : Int) ∧ Hid (BitsTo a3 i M)) (fun _ v10 => 32 - (intOf v10).toNat)
  case atStart => exact ⟨0, 0, by omega, rfl, rfl, bits_start a3⟩
  case round =>
    obtain ⟨i, M, hi, rfl, rfl, HBT⟩ := hrel
    by_cases hlt : i < 32
    · have hMl := bits_lt HBT.out (by omega)
      by_cases hin : (i : Int) < a3
      · have HB2 : Hid (BitsTo a3 (i + 1) (2 * M + 1)) := bits_more HBT.out hin
        go_wp2
        go_round
        case rel => exact ⟨i + 1, 2 * M + 1, by omega, by go_num, by go_num, HB2⟩
        case measure => simp [intOf] <;> omega
      · have HB2 : Hid (BitsTo a3 (i + 1) (2 * M)) := bits_same HBT.out hin
        go_wp2
        go_round
        case rel => exact ⟨i + 1, 2 * M, by omega, by go_num, by go_num, HB2⟩
        case measure => simp [intOf] <;> omega
    · obtain rfl : i = 32 := by omega
      have HM : Hid (M = maskN k) := by show _ = _; rw [bits_done HBT.out, HK.out]
      rw [← HM.out] at CM
      clear HBT
      go_upto_region 8 with (fail)
      refine Go.Proofs.YtbfflcpmagjlnaaDoor.flow.flow 6 [Go.Proofs.YtbfflcpmagjlnaaDoor.flow.Pd.eq (.agg #[.int .u32 (A : Int), .int .i64 L0]), Go.Proofs.YtbfflcpmagjlnaaDoor.flow.Pd.eq (.agg #[.int .u32 (f : Int), .int .u32 (g : Int)]), Go.Proofs.YtbfflcpmagjlnaaDoor.flow.Pd.eq (.agg #[.int .u32 (B : Int), .int .i64 L1]), Go.Proofs.YtbfflcpmagjlnaaDoor.flow.Pd.eq (.agg #[.int .u32 (f2 : Int), .int .u32 (g2 : Int)]), pn18 35 #[.int .u32 0, .int .u32 0] u2.heap.size, pn18 35 #[.int .u32 0, .int .u32 0] u2.heap.size] (by kernel_rfl) (by kernel_rfl) ?ob8 ?done8
      case ob8 =>
        refine And.intro (ob_load rfl (wt_none rfl) (ev_far rfl rfl) (fun w2 hb => run_loadAll Tryd.underlying24 rfl (by kernel_rfl) ((hb.block _ lt3).trans hP)) (fun _ _ => rfl)) ?_
        refine And.intro (ob_call1 rfl Tryd.func16 (by kernel_rfl) (wt_none rfl) (ev_dep (j := 0) (by kernel_rfl) rfl rfl) (fun w2 u0 hb h0 => by obtain rfl := h0; exact (CRr _).mono fun e w3 h => ⟨_, h.1, rfl, h.2⟩)) ?_
        refine And.intro (ob_load rfl (wt_none rfl) (ev_far rfl rfl) (fun w2 hb => run_loadAll Tryd.underlying24 rfl (by kernel_rfl) ((hb.block _ lt2).trans hQ)) (fun _ _ => rfl)) ?_
        refine And.intro (ob_call1 rfl Tryd.func16 (by kernel_rfl) (wt_none rfl) (ev_dep (j := 2) (by kernel_rfl) rfl rfl) (fun w2 u0 hb h0 => by obtain rfl := h0; exact (CRr2 _).mono fun e w3 h => ⟨_, h.1, rfl, h.2⟩)) ?_
        refine And.intro (ob_alloc (z := .agg #[.int .u32 0, .int .u32 0]) rfl rfl (fun _ => by kernel_rfl) (fun _ _ hB h => ⟨_, rfl, hB, h⟩)) ?_
        refine And.intro (ob_alloc (z := .agg #[.int .u32 0, .int .u32 0]) rfl rfl (fun _ => by kernel_rfl) (fun _ _ hB h => ⟨_, rfl, hB, h⟩)) ?_
        trivial
      case done8 =>
        refine fun w4 hb4 v0 h0 v1 h1 v2 h2 v3 h3 v4 h4 d4 v5 h5 d5 b hbf => ?_
        obtain rfl := h0; obtain rfl := h1; obtain rfl := h2; obtain rfl := h3
        obtain ⟨G1, rfl, hg1, B1⟩ := h4
        obtain ⟨G2, rfl, hg2, B2⟩ := h5
        simp only [Act.put, List.setIfInBounds_toArray, List.set_cons_zero, List.set_cons_succ] at hbf
        subst hbf
        have hne : G1 ≠ G2 := fun e => d5 (.pointer (some ⟨G1, 0, none⟩)) (by simp) (by rw [e])
        have hG1 : G1 < w4.heap.size := (Array.getElem?_eq_some_iff.1 B1).1
        have hG2 : G2 < w4.heap.size := (Array.getElem?_eq_some_iff.1 B2).1
        refine any_store (i := 6) (by kernel_rfl) rfl rfl rfl rfl rfl rfl (cells := [.int .u32 (f : Int), .int .u32 (g : Int)]) rfl B1 rfl (by kernel_rfl) (one2 rfl rfl) fun w5 k5 N5 => ?_
        have B25 := (k5.block G2 hG2 (fun e => hne (by injection e with e; exact e.symm))).trans B2
        have hG15 : G1 < w5.heap.size := (Array.getElem?_eq_some_iff.1 N5).1
        refine any_store (i := 7) (by kernel_rfl) rfl rfl rfl rfl rfl rfl (cells := [.int .u32 (f2 : Int), .int .u32 (g2 : Int)]) rfl B25 rfl (by kernel_rfl) (one2 rfl rfl) fun w6 k6 N6 => ?_
        have N56 := (k6.block G1 hG15 (fun e => hne (by injection e))).trans N5
        have bU : Below u2.heap.size u2 w6 := (hb4.grown k5 hb4.size (fun k hk => by injection hk with hk; omega)).grown k6 (Nat.le_trans hb4.size k5.size) (fun k hk => by injection hk with hk; omega)
        replace x0 := (bU.cell (World.block_lt_of_cell? _ _ x0)).trans x0
        replace x1 := (bU.cell (World.block_lt_of_cell? _ _ x1)).trans x1
        replace r0 := (bU.cell (World.block_lt_of_cell? _ _ r0)).trans r0
        replace r1 := (bU.cell (World.block_lt_of_cell? _ _ r1)).trans r1
        replace bb := bb.trans (bU.mono bb.size)
        have s0 := cell_of_row w6 G1 0 _ 35 (0, 0) N56
        have s1 := cell_of_row w6 G1 1 _ 35 (0, 0) N56
        have t0 := cell_of_row w6 G2 0 _ 35 (0, 0) N6
        have t1 := cell_of_row w6 G2 1 _ 35 (0, 0) N6
        replace s0 : w6.cell? ⟨G1, 0, none⟩ = some (.int .u32 (f : Int)) := s0
        replace s1 : w6.cell? ⟨G1, 1, none⟩ = some (.int .u32 (g : Int)) := s1
        replace t0 : w6.cell? ⟨G2, 0, none⟩ = some (.int .u32 (f2 : Int)) := t0
        replace t1 : w6.cell? ⟨G2, 1, none⟩ = some (.int .u32 (g2 : Int)) := t1
        clear hP hQ lt2 lt3 hb4 B1 B2 B25 N5 N56 N6 hG1 hG2 hG15 hg1 hg2 hne bU k5 k6 d4 d5
        refine any_done (by kernel_rfl) ?_
        go_upto_region 9 with (fail)
        go_cut [13] from 29 to 48 (fun s13 wx => s13 = .bool bw ∧ Below w6.heap.size w6 wx)
        case first =>
          cases by1 with
          | false =>
            obtain rfl : bw = false := Bool.eq_false_iff.2 fun h => Bool.noConfusion (HBY.out.1.2 (HBW.out.1 h).1)
            go_wp2_with fail
            refine (CYr _).mono ?_
            rintro e w7 ⟨rfl, b7⟩
            go_wp2
            go_meet
            exact ⟨by first | rfl | rw [decide_eq_false (by omega)] | rw [decide_eq_true (by omega)], b7⟩
          | true =>
            go_wp2_with fail
            refine (CYr _).mono ?_
            rintro e w7 ⟨rfl, b7⟩
            replace x0 := (b7.cell (World.block_lt_of_cell? _ _ x0)).trans x0
            replace x1 := (b7.cell (World.block_lt_of_cell? _ _ x1)).trans x1
            replace r0 := (b7.cell (World.block_lt_of_cell? _ _ r0)).trans r0
            replace r1 := (b7.cell (World.block_lt_of_cell? _ _ r1)).trans r1
            replace s0 := (b7.cell (World.block_lt_of_cell? _ _ s0)).trans s0
            replace s1 := (b7.cell (World.block_lt_of_cell? _ _ s1)).trans s1
            replace t0 := (b7.cell (World.block_lt_of_cell? _ _ t0)).trans t0
            replace t1 := (b7.cell (World.block_lt_of_cell? _ _ t1)).trans t1
            cases by2 with
            | false =>
              obtain rfl : bw = false := Bool.eq_false_iff.2 fun h => Bool.noConfusion (HBY.out.2.2 (HBW.out.1 h).2.2.1)
              go_wp2_with fail
              refine (CYr2 _).mono ?_
              rintro e w8 ⟨rfl, b8⟩
              go_wp2
              go_meet
              exact ⟨by first | rfl | rw [decide_eq_false (by omega)] | rw [decide_eq_true (by omega)], b7.trans (b8.mono b7.size)⟩
            | true =>
              have hin : bw = true ↔ f2 ≤ f ∧ g ≤ g2 := by
                have hy := HBY.out.1.1 (by simp)
                have hy2 := HBY.out.2.1 (by simp)
                have e1 := HFG.out.1
                have e2 := HFG.out.2
                unfold rngP at e1 e2
                rw [if_pos hy] at e1
                rw [if_pos hy2] at e2
                injection e1 with e1 e3
                injection e2 with e2 e4
                have p1 := Nat.two_pow_pos (32 - L0.toNat)
                have p2 := Nat.two_pow_pos (32 - L1.toNat)
                rw [HBW.out, Go.Proofs.YtbfflcpmagjlnaaDoor.adr.within_iff]
                constructor
                · rintro ⟨_, _, h3, h4⟩
                  exact ⟨by omega, by omega⟩
                · rintro ⟨h3, h4⟩
                  exact ⟨hy, hy2, by omega, by omega⟩
              have HIN := Lib.hid hin
              clear hin
              by_cases ha1 : (f2 : Int) ≤ (f : Int)
              · by_cases ha2 : (g : Int) ≤ (g2 : Int)
                · obtain rfl : bw = true := HIN.out.2 ⟨by omega, by omega⟩
                  go_wp2_with fail
                  refine (CYr2 _).mono ?_
                  rintro e w8 ⟨rfl, b8⟩
                  replace x0 := (b8.cell (World.block_lt_of_cell? _ _ x0)).trans x0
                  replace x1 := (b8.cell (World.block_lt_of_cell? _ _ x1)).trans x1
                  replace r0 := (b8.cell (World.block_lt_of_cell? _ _ r0)).trans r0
                  replace r1 := (b8.cell (World.block_lt_of_cell? _ _ r1)).trans r1
                  replace s0 := (b8.cell (World.block_lt_of_cell? _ _ s0)).trans s0
                  replace s1 := (b8.cell (World.block_lt_of_cell? _ _ s1)).trans s1
                  replace t0 := (b8.cell (World.block_lt_of_cell? _ _ t0)).trans t0
                  replace t1 := (b8.cell (World.block_lt_of_cell? _ _ t1)).trans t1
                  go_wp2
                  go_meet
                  exact ⟨by first | rfl | rw [decide_eq_false (by omega)] | rw [decide_eq_true (by omega)], b7.trans (b8.mono b7.size)⟩
                · obtain rfl : bw = false := Bool.eq_false_iff.2 fun h => by have := (HIN.out.1 h).2; omega
                  have hd : decide ((g : Int) ≤ (g2 : Int)) = false := decide_eq_false ha2
                  go_wp2_with fail
                  refine (CYr2 _).mono ?_
                  rintro e w8 ⟨rfl, b8⟩
                  replace x0 := (b8.cell (World.block_lt_of_cell? _ _ x0)).trans x0
                  replace x1 := (b8.cell (World.block_lt_of_cell? _ _ x1)).trans x1
                  replace r0 := (b8.cell (World.block_lt_of_cell? _ _ r0)).trans r0
                  replace r1 := (b8.cell (World.block_lt_of_cell? _ _ r1)).trans r1
                  replace s0 := (b8.cell (World.block_lt_of_cell? _ _ s0)).trans s0
                  replace s1 := (b8.cell (World.block_lt_of_cell? _ _ s1)).trans s1
                  replace t0 := (b8.cell (World.block_lt_of_cell? _ _ t0)).trans t0
                  replace t1 := (b8.cell (World.block_lt_of_cell? _ _ t1)).trans t1
                  go_wp2
                  go_meet
                  exact ⟨by first | rfl | rw [decide_eq_false (by omega)] | rw [decide_eq_true (by omega)], b7.trans (b8.mono b7.size)⟩
              · obtain rfl : bw = false := Bool.eq_false_iff.2 fun h => by have := (HIN.out.1 h).1; omega
                have hd : decide ((f2 : Int) ≤ (f : Int)) = false := decide_eq_false ha1
                go_wp2_with fail
                refine (CYr2 _).mono ?_
                rintro e w8 ⟨rfl, b8⟩
                replace x0 := (b8.cell (World.block_lt_of_cell? _ _ x0)).trans x0
                replace x1 := (b8.cell (World.block_lt_of_cell? _ _ x1)).trans x1
                replace r0 := (b8.cell (World.block_lt_of_cell? _ _ r0)).trans r0
                replace r1 := (b8.cell (World.block_lt_of_cell? _ _ r1)).trans r1
                replace s0 := (b8.cell (World.block_lt_of_cell? _ _ s0)).trans s0
                replace s1 := (b8.cell (World.block_lt_of_cell? _ _ s1)).trans s1
                replace t0 := (b8.cell (World.block_lt_of_cell? _ _ t0)).trans t0
                replace t1 := (b8.cell (World.block_lt_of_cell? _ _ t1)).trans t1
                go_wp2
                go_meet
                exact ⟨by first | rfl | rw [decide_eq_false (by omega)] | rw [decide_eq_true (by omega)], b7.trans (b8.mono b7.size)⟩
        case rest =>
          obtain ⟨rfl, c0⟩ := hcut
          obtain ⟨W, hW⟩ : ∃ W, W = wc := ⟨_, rfl⟩
          subst hW
          replace x0 := (c0.cell (World.block_lt_of_cell? _ _ x0)).trans x0
          replace x1 := (c0.cell (World.block_lt_of_cell? _ _ x1)).trans x1
          replace r0 := (c0.cell (World.block_lt_of_cell? _ _ r0)).trans r0
          replace r1 := (c0.cell (World.block_lt_of_cell? _ _ r1)).trans r1
          replace s0 := (c0.cell (World.block_lt_of_cell? _ _ s0)).trans s0
          replace s1 := (c0.cell (World.block_lt_of_cell? _ _ s1)).trans s1
          replace t0 := (c0.cell (World.block_lt_of_cell? _ _ t0)).trans t0
          replace t1 := (c0.cell (World.block_lt_of_cell? _ _ t1)).trans t1
          replace bb := bb.trans (c0.mono bb.size)
          clear c0 CYr2
          go_upto_region 10 with (fail)
          replace x0 := cell_drew x0
          replace x1 := cell_drew x1
          replace r0 := cell_drew r0
          replace r1 := cell_drew r1
          replace s0 := cell_drew s0
          replace s1 := cell_drew s1
          replace t0 := cell_drew t0
          replace t1 := cell_drew t1
          replace bb := bb.drew
          refine wp_region_held_drew (S := fun w' : World => Below W.drew.heap.size W.drew w') (by kernel_rfl) (Below.refl _ _) (fun hHeld => ?_)
          refine wpAnyH_take (i := 0) (v := .agg #[.int .u32 (A : Int), .int .i64 L0]) rfl (by kernel_rfl) (by kernel_rfl) (by kernel_rfl) (fun _ _ _ h => h) (Or.inl ⟨by kernel_rfl, fun w hSw => by (have hBw : Below W.drew.heap.size W.drew w := hSw; have f0 := (hBw.cell (World.block_lt_of_cell? _ _ x0)).trans x0; have f1 := (hBw.cell (World.block_lt_of_cell? _ _ x1)).trans x1; go_simp; first | done | with_reducible rfl)⟩) hHeld ?_
          simp only [Act.put, List.getElem_toArray, List.getElem_cons_zero, List.getElem_cons_succ, List.setIfInBounds_toArray, List.set_cons_zero, List.set_cons_succ]
          refine wpAnyH_take (i := 2) (v := .agg #[.int .u32 (A : Int), .int .i64 L0]) rfl (by kernel_rfl) (by kernel_rfl) (by kernel_rfl) (fun _ _ _ h => h) (Or.inl ⟨by kernel_rfl, fun w hSw => by (have hBw : Below W.drew.heap.size W.drew w := hSw; have f0 := (hBw.cell (World.block_lt_of_cell? _ _ x0)).trans x0; have f1 := (hBw.cell (World.block_lt_of_cell? _ _ x1)).trans x1; go_simp; first | done | with_reducible rfl)⟩) hHeld ?_
          simp only [Act.put, List.getElem_toArray, List.getElem_cons_zero, List.getElem_cons_succ, List.setIfInBounds_toArray, List.set_cons_zero, List.set_cons_succ]
          refine wpAnyH_ready (rs := [1]) (by kernel_rfl) (by simp) ?_
          refine AllReadyH.cons rfl (fun K hK => ?_) AllReadyH.nil
          go_simp
          go_at_call 18
          refine (CY _).mono ?_
          rintro e q1 ⟨rfl, z1⟩
          have bT := hHeld.trans (z1.mono hHeld.size)
          refine hK.out _ _ (by exact bT) (fun hHeld => ?_)
          clear hK K
          try simp only [Act.put, List.getElem_toArray, List.getElem_cons_zero, List.getElem_cons_succ, List.setIfInBounds_toArray, List.set_cons_zero, List.set_cons_succ]
          refine wpAnyH_ready (rs := [3]) (by kernel_rfl) (by simp) ?_
          refine AllReadyH.cons rfl (fun K hK => ?_) AllReadyH.nil
          go_simp
          go_at_call 17
          refine (CYr _).mono ?_
          rintro e q2 ⟨rfl, z2⟩
          have bT := hHeld.trans (z2.mono hHeld.size)
          refine hK.out _ _ (by exact bT) (fun hHeld => ?_)
          clear hK K
          try simp only [Act.put, List.getElem_toArray, List.getElem_cons_zero, List.getElem_cons_succ, List.setIfInBounds_toArray, List.set_cons_zero, List.set_cons_succ]
          refine wpAnyH_take (i := 4) (v := .bool true) rfl (by kernel_rfl) (by kernel_rfl) (by kernel_rfl) (fun _ _ _ h => h) (Or.inl ⟨by kernel_rfl, fun w hSw => by (go_simp; first | done | with_reducible rfl)⟩) hHeld ?_
          simp only [Act.put, List.getElem_toArray, List.getElem_cons_zero, List.getElem_cons_succ, List.setIfInBounds_toArray, List.set_cons_zero, List.set_cons_succ]
          refine wpAnyH_take (i := 5) (v := .bool true) rfl (by kernel_rfl) (by kernel_rfl) (by kernel_rfl) (fun _ _ _ h => h) (Or.inl ⟨by kernel_rfl, fun w hSw => by (go_simp; first | done | with_reducible rfl)⟩) hHeld ?_
          simp only [Act.put, List.getElem_toArray, List.getElem_cons_zero, List.getElem_cons_succ, List.setIfInBounds_toArray, List.set_cons_zero, List.set_cons_succ]
          refine wpAnyH_take (i := 6) (v := .agg #[.int .u32 (A : Int), .int .i64 L0]) rfl (by kernel_rfl) (by kernel_rfl) (by kernel_rfl) (fun _ _ _ h => h) (Or.inl ⟨by kernel_rfl, fun w hSw => by (have hBw : Below W.drew.heap.size W.drew w := hSw; have f0 := (hBw.cell (World.block_lt_of_cell? _ _ x0)).trans x0; have f1 := (hBw.cell (World.block_lt_of_cell? _ _ x1)).trans x1; go_simp; first | done | with_reducible rfl)⟩) hHeld ?_
          simp only [Act.put, List.getElem_toArray, List.getElem_cons_zero, List.getElem_cons_succ, List.setIfInBounds_toArray, List.set_cons_zero, List.set_cons_succ]
          refine wpAnyH_take (i := 7) (v := .int .u32 (a : Int)) rfl (by kernel_rfl) (by kernel_rfl) (by kernel_rfl) (fun _ _ _ h => h) (Or.inl ⟨by kernel_rfl, fun w hSw => by (go_simp; first | done | with_reducible rfl)⟩) hHeld ?_
          simp only [Act.put, List.getElem_toArray, List.getElem_cons_zero, List.getElem_cons_succ, List.setIfInBounds_toArray, List.set_cons_zero, List.set_cons_succ]
          refine wpAnyH_take (i := 9) (v := .agg #[.int .u32 (A : Int), .int .i64 L0]) rfl (by kernel_rfl) (by kernel_rfl) (by kernel_rfl) (fun _ _ _ h => h) (Or.inl ⟨by kernel_rfl, fun w hSw => by (have hBw : Below W.drew.heap.size W.drew w := hSw; have f0 := (hBw.cell (World.block_lt_of_cell? _ _ x0)).trans x0; have f1 := (hBw.cell (World.block_lt_of_cell? _ _ x1)).trans x1; go_simp; first | done | with_reducible rfl)⟩) hHeld ?_
          simp only [Act.put, List.getElem_toArray, List.getElem_cons_zero, List.getElem_cons_succ, List.setIfInBounds_toArray, List.set_cons_zero, List.set_cons_succ]
          refine wpAnyH_take (i := 10) (v := .int .u32 (a : Int)) rfl (by kernel_rfl) (by kernel_rfl) (by kernel_rfl) (fun _ _ _ h => h) (Or.inl ⟨by kernel_rfl, fun w hSw => by (go_simp; first | done | with_reducible rfl)⟩) hHeld ?_
          simp only [Act.put, List.getElem_toArray, List.getElem_cons_zero, List.getElem_cons_succ, List.setIfInBounds_toArray, List.set_cons_zero, List.set_cons_succ]
          refine wpAnyH_ready (rs := [8]) (by kernel_rfl) (by simp) ?_
          refine AllReadyH.cons rfl (fun K hK => ?_) AllReadyH.nil
          go_simp
          go_at_call 19
          refine (CH _).mono ?_
          rintro e q3 ⟨rfl, z3⟩
          have bT := hHeld.trans (z3.mono hHeld.size)
          refine hK.out _ _ (by exact bT) (fun hHeld => ?_)
          clear hK K
          try simp only [Act.put, List.getElem_toArray, List.getElem_cons_zero, List.getElem_cons_succ, List.setIfInBounds_toArray, List.set_cons_zero, List.set_cons_succ]
          refine wpAnyH_ready (rs := [11]) (by kernel_rfl) (by simp) ?_
          refine AllReadyH.cons rfl (fun K hK => ?_) AllReadyH.nil
          go_simp
          go_at_call 20
          refine (CHr _).mono ?_
          rintro e q4 ⟨rfl, z4⟩
          have bT := hHeld.trans (z4.mono hHeld.size)
          refine hK.out _ _ (by exact bT) (fun hHeld => ?_)
          clear hK K
          try simp only [Act.put, List.getElem_toArray, List.getElem_cons_zero, List.getElem_cons_succ, List.setIfInBounds_toArray, List.set_cons_zero, List.set_cons_succ]
          refine wpAnyH_take (i := 12) (v := .bool true) rfl (by kernel_rfl) (by kernel_rfl) (by kernel_rfl) (fun _ _ _ h => h) (Or.inl ⟨by kernel_rfl, fun w hSw => by (go_simp; first | done | with_reducible rfl)⟩) hHeld ?_
          simp only [Act.put, List.getElem_toArray, List.getElem_cons_zero, List.getElem_cons_succ, List.setIfInBounds_toArray, List.set_cons_zero, List.set_cons_succ]
          refine wpAnyH_take (i := 13) (v := .bool true) rfl (by kernel_rfl) (by kernel_rfl) (by kernel_rfl) (fun _ _ _ h => h) (Or.inl ⟨by kernel_rfl, fun w hSw => by (go_simp; first | done | with_reducible rfl)⟩) hHeld ?_
          simp only [Act.put, List.getElem_toArray, List.getElem_cons_zero, List.getElem_cons_succ, List.setIfInBounds_toArray, List.set_cons_zero, List.set_cons_succ]
          refine wpAnyH_take (i := 14) (v := .bool true) rfl (by kernel_rfl) (by kernel_rfl) (by kernel_rfl) (fun _ _ _ h => h) (Or.inl ⟨by kernel_rfl, fun w hSw => by (go_simp; first | done | with_reducible rfl)⟩) hHeld ?_
          simp only [Act.put, List.getElem_toArray, List.getElem_cons_zero, List.getElem_cons_succ, List.setIfInBounds_toArray, List.set_cons_zero, List.set_cons_succ]
          refine wpAnyH_take (i := 15) (v := .agg #[.int .u32 (A : Int), .int .i64 L0]) rfl (by kernel_rfl) (by kernel_rfl) (by kernel_rfl) (fun _ _ _ h => h) (Or.inl ⟨by kernel_rfl, fun w hSw => by (have hBw : Below W.drew.heap.size W.drew w := hSw; have f0 := (hBw.cell (World.block_lt_of_cell? _ _ x0)).trans x0; have f1 := (hBw.cell (World.block_lt_of_cell? _ _ x1)).trans x1; go_simp; first | done | with_reducible rfl)⟩) hHeld ?_
          simp only [Act.put, List.getElem_toArray, List.getElem_cons_zero, List.getElem_cons_succ, List.setIfInBounds_toArray, List.set_cons_zero, List.set_cons_succ]
          refine wpAnyH_take (i := 17) (v := .agg #[.int .u32 (f : Int), .int .u32 (g : Int)]) rfl (by kernel_rfl) (by kernel_rfl) (by kernel_rfl) (fun _ _ _ h => h) (Or.inl ⟨by kernel_rfl, fun w hSw => by (have hBw : Below W.drew.heap.size W.drew w := hSw; have f0 := (hBw.cell (World.block_lt_of_cell? _ _ s0)).trans s0; have f1 := (hBw.cell (World.block_lt_of_cell? _ _ s1)).trans s1; go_simp; first | done | with_reducible rfl)⟩) hHeld ?_
          simp only [Act.put, List.getElem_toArray, List.getElem_cons_zero, List.getElem_cons_succ, List.setIfInBounds_toArray, List.set_cons_zero, List.set_cons_succ]
          refine wpAnyH_ready (rs := [16]) (by kernel_rfl) (by simp) ?_
          refine AllReadyH.cons rfl (fun K hK => ?_) AllReadyH.nil
          go_simp
          go_at_call 21
          refine (CR _).mono ?_
          rintro e q5 ⟨rfl, z5⟩
          have bT := hHeld.trans (z5.mono hHeld.size)
          refine hK.out _ _ (by exact bT) (fun hHeld => ?_)
          clear hK K
          try simp only [Act.put, List.getElem_toArray, List.getElem_cons_zero, List.getElem_cons_succ, List.setIfInBounds_toArray, List.set_cons_zero, List.set_cons_succ]
          refine wpAnyH_take (i := 18) (v := .bool true) rfl (by kernel_rfl) (by kernel_rfl) (by kernel_rfl) (fun _ _ _ h => h) (Or.inl ⟨by kernel_rfl, fun w hSw => by (go_simp; first | done | with_reducible rfl)⟩) hHeld ?_
          simp only [Act.put, List.getElem_toArray, List.getElem_cons_zero, List.getElem_cons_succ, List.setIfInBounds_toArray, List.set_cons_zero, List.set_cons_succ]
          refine wpAnyH_take (i := 19) (v := .bool true) rfl (by kernel_rfl) (by kernel_rfl) (by kernel_rfl) (fun _ _ _ h => h) (Or.inl ⟨by kernel_rfl, fun w hSw => by (go_simp; first | done | with_reducible rfl)⟩) hHeld ?_
          simp only [Act.put, List.getElem_toArray, List.getElem_cons_zero, List.getElem_cons_succ, List.setIfInBounds_toArray, List.set_cons_zero, List.set_cons_succ]
          refine wpAnyH_take (i := 20) (v := .bool true) rfl (by kernel_rfl) (by kernel_rfl) (by kernel_rfl) (fun _ _ _ h => h) (Or.inl ⟨by kernel_rfl, fun w hSw => by (go_simp; first | done | with_reducible rfl)⟩) hHeld ?_
          simp only [Act.put, List.getElem_toArray, List.getElem_cons_zero, List.getElem_cons_succ, List.setIfInBounds_toArray, List.set_cons_zero, List.set_cons_succ]
          refine wpAnyH_take (i := 21) (v := .int .i64 a3) rfl (by kernel_rfl) (by kernel_rfl) (by kernel_rfl) (fun _ _ _ h => h) (Or.inl ⟨by kernel_rfl, fun w hSw => by (go_simp; first | done | with_reducible rfl)⟩) hHeld ?_
          simp only [Act.put, List.getElem_toArray, List.getElem_cons_zero, List.getElem_cons_succ, List.setIfInBounds_toArray, List.set_cons_zero, List.set_cons_succ]
          refine wpAnyH_take (i := 23) (v := .int .u32 (M : Int)) rfl (by kernel_rfl) (by kernel_rfl) (by kernel_rfl) (fun _ _ _ h => h) (Or.inl ⟨by kernel_rfl, fun w hSw => by (go_simp; first | done | with_reducible rfl)⟩) hHeld ?_
          simp only [Act.put, List.getElem_toArray, List.getElem_cons_zero, List.getElem_cons_succ, List.setIfInBounds_toArray, List.set_cons_zero, List.set_cons_succ]
          refine wpAnyH_ready (rs := [22]) (by kernel_rfl) (by simp) ?_
          refine AllReadyH.cons rfl (fun K hK => ?_) AllReadyH.nil
          go_simp
          go_at_call 22
          refine (CM _).mono ?_
          rintro e q6 ⟨rfl, rfl⟩
          have bT := hHeld
          refine hK.out _ _ (by exact bT) (fun hHeld => ?_)
          clear hK K
          try simp only [Act.put, List.getElem_toArray, List.getElem_cons_zero, List.getElem_cons_succ, List.setIfInBounds_toArray, List.set_cons_zero, List.set_cons_succ]
          refine wpAnyH_take (i := 24) (v := .bool true) rfl (by kernel_rfl) (by kernel_rfl) (by kernel_rfl) (fun _ _ _ h => h) (Or.inl ⟨by kernel_rfl, fun w hSw => by (go_simp; first | done | with_reducible rfl)⟩) hHeld ?_
          simp only [Act.put, List.getElem_toArray, List.getElem_cons_zero, List.getElem_cons_succ, List.setIfInBounds_toArray, List.set_cons_zero, List.set_cons_succ]
          refine wpAnyH_take (i := 25) (v := .bool true) rfl (by kernel_rfl) (by kernel_rfl) (by kernel_rfl) (fun _ _ _ h => h) (Or.inl ⟨by kernel_rfl, fun w hSw => by (go_simp; first | done | with_reducible rfl)⟩) hHeld ?_
          simp only [Act.put, List.getElem_toArray, List.getElem_cons_zero, List.getElem_cons_succ, List.setIfInBounds_toArray, List.set_cons_zero, List.set_cons_succ]
          refine wpAnyH_take (i := 26) (v := .bool true) rfl (by kernel_rfl) (by kernel_rfl) (by kernel_rfl) (fun _ _ _ h => h) (Or.inl ⟨by kernel_rfl, fun w hSw => by (go_simp; first | done | with_reducible rfl)⟩) hHeld ?_
          simp only [Act.put, List.getElem_toArray, List.getElem_cons_zero, List.getElem_cons_succ, List.setIfInBounds_toArray, List.set_cons_zero, List.set_cons_succ]
          refine wpAnyH_take (i := 27) (v := .agg #[.int .u32 (A : Int), .int .i64 L0]) rfl (by kernel_rfl) (by kernel_rfl) (by kernel_rfl) (fun _ _ _ h => h) (Or.inl ⟨by kernel_rfl, fun w hSw => by (have hBw : Below W.drew.heap.size W.drew w := hSw; have f0 := (hBw.cell (World.block_lt_of_cell? _ _ x0)).trans x0; have f1 := (hBw.cell (World.block_lt_of_cell? _ _ x1)).trans x1; go_simp; first | done | with_reducible rfl)⟩) hHeld ?_
          simp only [Act.put, List.getElem_toArray, List.getElem_cons_zero, List.getElem_cons_succ, List.setIfInBounds_toArray, List.set_cons_zero, List.set_cons_succ]
          refine wpAnyH_take (i := 28) (v := .agg #[.int .u32 (B : Int), .int .i64 L1]) rfl (by kernel_rfl) (by kernel_rfl) (by kernel_rfl) (fun _ _ _ h => h) (Or.inl ⟨by kernel_rfl, fun w hSw => by (have hBw : Below W.drew.heap.size W.drew w := hSw; have f0 := (hBw.cell (World.block_lt_of_cell? _ _ r0)).trans r0; have f1 := (hBw.cell (World.block_lt_of_cell? _ _ r1)).trans r1; go_simp; first | done | with_reducible rfl)⟩) hHeld ?_
          simp only [Act.put, List.getElem_toArray, List.getElem_cons_zero, List.getElem_cons_succ, List.setIfInBounds_toArray, List.set_cons_zero, List.set_cons_succ]
          refine wpAnyH_take (i := 30) (v := .bool bw) rfl (by kernel_rfl) (by kernel_rfl) (by kernel_rfl) (fun _ _ _ h => h) (Or.inl ⟨by kernel_rfl, fun w hSw => by (go_simp; first | done | with_reducible rfl)⟩) hHeld ?_
          simp only [Act.put, List.getElem_toArray, List.getElem_cons_zero, List.getElem_cons_succ, List.setIfInBounds_toArray, List.set_cons_zero, List.set_cons_succ]
          refine wpAnyH_ready (rs := [29]) (by kernel_rfl) (by simp) ?_
          refine AllReadyH.cons rfl (fun K hK => ?_) AllReadyH.nil
          go_simp
          go_at_call 23
          refine (CW _).mono ?_
          rintro e q7 ⟨rfl, z7⟩
          have bT := hHeld.trans (z7.mono hHeld.size)
          refine hK.out _ _ (by exact bT) (fun hHeld => ?_)
          clear hK K
          try simp only [Act.put, List.getElem_toArray, List.getElem_cons_zero, List.getElem_cons_succ, List.setIfInBounds_toArray, List.set_cons_zero, List.set_cons_succ]
          refine wpAnyH_take (i := 31) (v := .bool true) rfl (by kernel_rfl) (by kernel_rfl) (by kernel_rfl) (fun _ _ _ h => h) (Or.inl ⟨by kernel_rfl, fun w hSw => by (go_simp; first | done | with_reducible rfl)⟩) hHeld ?_
          simp only [Act.put, List.getElem_toArray, List.getElem_cons_zero, List.getElem_cons_succ, List.setIfInBounds_toArray, List.set_cons_zero, List.set_cons_succ]
          refine wpAnyH_take (i := 32) (v := .bool true) rfl (by kernel_rfl) (by kernel_rfl) (by kernel_rfl) (fun _ _ _ h => h) (Or.inl ⟨by kernel_rfl, fun w hSw => by (go_simp; first | done | with_reducible rfl)⟩) hHeld ?_
          simp only [Act.put, List.getElem_toArray, List.getElem_cons_zero, List.getElem_cons_succ, List.setIfInBounds_toArray, List.set_cons_zero, List.set_cons_succ]
          refine wpAnyH_take (i := 33) (v := .bool true) rfl (by kernel_rfl) (by kernel_rfl) (by kernel_rfl) (fun _ _ _ h => h) (Or.inl ⟨by kernel_rfl, fun w hSw => by (go_simp; first | done | with_reducible rfl)⟩) hHeld ?_
          simp only [Act.put, List.getElem_toArray, List.getElem_cons_zero, List.getElem_cons_succ, List.setIfInBounds_toArray, List.set_cons_zero, List.set_cons_succ]
          refine wpAnyH_ready (rs := [34]) (by kernel_rfl) (by simp) ?_
          refine AllReadyH.cons rfl (fun K hK => ?_) AllReadyH.nil
          go_simp
          go_at_call 15
          refine (works18_any _ (HT.out.below (bb.trans (hHeld.mono bb.size)))).mono ?_
          rintro e q8 ⟨rfl, z8⟩
          have bT := hHeld.trans (z8.mono hHeld.size)
          refine hK.out _ _ (by exact bT) (fun hHeld => ?_)
          clear hK K
          try simp only [Act.put, List.getElem_toArray, List.getElem_cons_zero, List.getElem_cons_succ, List.setIfInBounds_toArray, List.set_cons_zero, List.set_cons_succ]
          refine wpAnyH_take (i := 35) (v := .bool true) rfl (by kernel_rfl) (by kernel_rfl) (by kernel_rfl) (fun _ _ _ h => h) (Or.inl ⟨by kernel_rfl, fun w hSw => by (go_simp; first | done | with_reducible rfl)⟩) hHeld ?_
          simp only [Act.put, List.getElem_toArray, List.getElem_cons_zero, List.getElem_cons_succ, List.setIfInBounds_toArray, List.set_cons_zero, List.set_cons_succ]
          refine wpAnyH_take (i := 36) (v := .bool true) rfl (by kernel_rfl) (by kernel_rfl) (by kernel_rfl) (fun _ _ _ h => h) (Or.inl ⟨by kernel_rfl, fun w hSw => by (go_simp; first | done | with_reducible rfl)⟩) hHeld ?_
          simp only [Act.put, List.getElem_toArray, List.getElem_cons_zero, List.getElem_cons_succ, List.setIfInBounds_toArray, List.set_cons_zero, List.set_cons_succ]
          refine wpAnyH_done (by kernel_rfl) ?_ _
          go_wp2
          go_ret
          exact ⟨rfl, bb.trans (hHeld.mono bb.size)⟩

set_option maxRecDepth 100000 in
theorem lifted (os : Os) (started : os.Started) (H : Type) (enc : TypeId × Value → H) :
    ReturnsInHanded {} Tryd.checked os 4 .any (fun w args => (Rows.addrHasSpec.pre enc Tryd.prog Tryd.f4 Rows.addrHasRow.domain false w args ∧ laidMetH Tryd.prog Rows.addrHasRow.laid w) ∧ sizedMet enc Tryd.prog Tryd.f4 (OpenSpec.ofChange Rows.addrHasSpec) false w args)
      (Rows.addrHasSpec.post enc Tryd.prog Tryd.f4 false true false false) := by
  refine returnsInHanded_of_change_and (C := Tryd.checked) (X := fun w _ => laidMetH Tryd.prog Rows.addrHasRow.laid w) (fun _ _ _ hh h => h.of_heap hh) own started (by kernel_rfl) Tryd.func4
    (ChangeSpec.witness_shaped (enc := enc) (C := Tryd.checked) (os := os) (X := fun w _ => laidMetH Tryd.prog Rows.addrHasRow.laid w) false (World.laidAll Tryd.prog os Rows.addrHasRow.laid) #[.agg #[.int .u32 0, .int .i64 0], .agg #[.int .u32 0, .int .i64 0], .int .u32 0, .int .i64 0] 8 (World.laidAll_os _ _ _)
      (World.shaped_of_ZipB (by kernel_rfl) (by kernel_rfl)) (by kernel_rfl) (by kernel_rfl) (by kernel_rfl)
      (by rw [MakeChecks.laidMetH_plain _ _ _ (by kernel_rfl)]; exact laidMet_laidAll _ (by kernel_rfl) (by kernel_rfl))) ?_
  intro W base args ds gs before hval0 hW hcnd _ hL _
  have hval : ∀ (j : Nat) t v, Tryd.f4.params[j]? = some t → args[j]? = some v → Value.okWide Tryd.prog W .any base t v := hval0
  have hW' := hW
  obtain ⟨p, q, hA0, hV, rfl, hfz, hnd⟩ := hW
  have hA : DataW.TrodAll enc Tryd.prog W 0 (fun _ => true) true Tryd.f4.params.toList args.toList ds p := hA0
  rw [Tryd.params4] at hA hval
  obtain ⟨v0, vs0, d0, ds0, p0, q0, hargs, rfl, rfl, t0, r0⟩ := trodAll_cons hA
  obtain ⟨v1, vs1, d1, ds1, p1, q1, rfl, rfl, rfl, t1, r1⟩ := trodAll_cons r0
  obtain ⟨v2, vs2, d2, ds2, p2, q2, rfl, rfl, rfl, t2, r2⟩ := trodAll_cons r1
  obtain ⟨v3, vs3, d3, ds3, p3, q3, rfl, rfl, rfl, t3, r3⟩ := trodAll_cons r2
  obtain ⟨rfl, rfl, rfl⟩ := trodAll_nil r3
  obtain rfl : args = #[v0, v1, v2, v3] := by cases args; simp_all
  obtain ⟨rfl, rfl⟩ := trodVars_none hV
  obtain ⟨A0, L0, rfl, wA0, wL0⟩ := arg_px Tryd.underlying24 (by kernel_rfl) (by kernel_rfl) Tryd.underlying22 Tryd.underlying3 (hval 0 24 v0 rfl rfl) t0
  obtain ⟨A1, L1, rfl, wA1, wL1⟩ := arg_px Tryd.underlying24 (by kernel_rfl) (by kernel_rfl) Tryd.underlying22 Tryd.underlying3 (hval 1 24 v1 rfl rfl) t1
  obtain ⟨a2, rfl, hd2, hp2, wf2⟩ := open_int Tryd.underlying22 (hval 2 22 v2 rfl rfl) t2
  obtain ⟨a3, rfl, hd3, hp3, wf3⟩ := open_int Tryd.underlying3 (hval 3 3 v3 rfl rfl) t3
  clear hA0 hval0
  simp only [List.append_nil] at hW'
  have hlt0 : ∀ x ∈ p0, x.block < W.heap.size := fun x hx => hW'.lt x (List.mem_append_left _ hx)
  have hlt1 : ∀ x ∈ p1, x.block < W.heap.size := fun x hx => hW'.lt x (List.mem_append_right _ (List.mem_append_left _ hx))
  have hlt2 : ∀ x ∈ p2, x.block < W.heap.size := fun x hx => hW'.lt x (List.mem_append_right _ (List.mem_append_right _ (List.mem_append_left _ hx)))
  have hlt3 : ∀ x ∈ p3, x.block < W.heap.size := fun x hx => hW'.lt x (List.mem_append_right _ (List.mem_append_right _ (List.mem_append_right _ (hx))))
  refine (walk A0 L0 A1 L1 a2 a3 W (tab_of W hL) wA0 wL0 wA1 wL1 wf2 wf3).mono fun e W' ⟨he, hb⟩ => ?_
  subst he
  have s0 := Below.trod laidOut (by kernel_rfl) (of_decide_eq_true (by kernel_rfl)) t0 hb hlt0
  have s1 := Below.trod laidOut (by kernel_rfl) (of_decide_eq_true (by kernel_rfl)) t1 hb hlt1
  have s2 := Below.trod laidOut (by kernel_rfl) (of_decide_eq_true (by kernel_rfl)) t2 hb hlt2
  have s3 := Below.trod laidOut (by kernel_rfl) (of_decide_eq_true (by kernel_rfl)) t3 hb hlt3
  exact ⟨_, rfl, _, _, _, [] ++ [], _, [], hW', trodAll_cons_mk (shut_bool Tryd.underlying4 _) trodAll_mk0, trodAll_cons_mk s0 (trodAll_cons_mk s1 (trodAll_cons_mk s2 (trodAll_cons_mk s3 (trodAll_mk0)))), rfl, hb.frame _, fun h => by cases h⟩

theorem over : Rows.addrHasRow.holds Tryd.pinned (OpenSpec.ofChange Rows.addrHasSpec) :=
  OpenClaim.holds_of_wide 4 Tryd.f4 rfl rfl rfl rfl rfl rfl rfl ⟨rfl, rfl, rfl, rfl, rfl⟩ rfl rfl rfl rfl rfl (by kernel_rfl) Tryd.func4 (by kernel_rfl)
    (of_decide_eq_true (by kernel_rfl)) (by unfold Func.isWrapper; first | (rw [if_pos (by decide +kernel)]; kernel_rfl) | (rw [if_neg (by decide +kernel)]; exact ⟨rfl, rfl⟩))
    (fun os started H enc _ => lifted os started H enc)

/-- The statement: the card. -/
theorem proved : Rows.AddrHasCardSaid :=
  Claim7.holds_tied_plain_at .later [] [.data, .data, .data] true _ false over (fun _ h => by cases h) (by kernel_rfl) (fun _ h => by cases h) addrHas_row_tie rfl ⟨rfl, rfl⟩ (by kernel_rfl) rfl
    (fun f fn hf hfn => by
      obtain rfl : f = 4 := Option.some.inj ((show Tryd.prog.funcNamed Rows.addrHasRow.func = some 4 by kernel_rfl).symm.trans hf) |>.symm
      obtain rfl : fn = Tryd.f4 := (Option.some.inj (Tryd.func4.symm.trans hfn)).symm
      exact ⟨by kernel_rfl, fun j t ht => by
        rw [Tryd.params4] at ht
        have hm : t ∈ [24, 24, 22, 3] := by simpa using Array.mem_of_getElem? ht
        have hall : ([24, 24, 22, 3].all fun u => !Tryd.prog.wantsStandIn u) = true := by kernel_rfl
        exact (show Tryd.prog.wantsStandIn t = false by simpa using List.all_eq_true.1 hall t hm)⟩)
    (by kernel_rfl)
end Go.Proofs.YtbfflcpmagjlnaaDoor.addrHas
