/- VectDots: the product of any rows, which are the same, and where any begins. Condition: the arguments can be read as data. -/
import Derived.Test.YtodpjmbclmlieaaGreatK6
import Derived.Deep.Cut
import Derived.OpenShut
import Derived.LaidMore
import Derived.Lay
import Derived.Stop.Joined
namespace Go.Proofs.YtodpjmbclmlieaaGreat.vectDots
open Go.ChangeShapes Go.WideShapes Go.ChangeAt Go.RowKit Go.Proofs.YtodpjmbclmlieaaGreat.num Go.Proofs.YtodpjmbclmlieaaGreat.mem Go.Proofs.YtodpjmbclmlieaaGreat.nat Go.Proofs.YtodpjmbclmlieaaGreat.txt Go.Proofs.YtodpjmbclmlieaaGreat.str Go.Proofs.YtodpjmbclmlieaaGreat.flow Go.Proofs.YtodpjmbclmlieaaGreat.whl Go.Proofs.YtodpjmbclmlieaaGreat.rat
set_option linter.unusedVariables false
theorem own : ownKnob Tryz.prog.godebug = none := by kernel_rfl
theorem laidOut : laidOutB Tryz.prog = true := by kernel_rfl
theorem cells_u : Tryz.prog.cellsOf 63 = 1 := by kernel_rfl
set_option maxHeartbeats 6400000 in
set_option maxRecDepth 100000 in
/-- The walk: the Go text returns true; what was there is as it was. -/
theorem walk (v0 : Value) (v1 : Value) (w : World) (h0 : ArgQs w v0) (h1 : ArgQs w v1) :
    Calls Tryz.prog 4 #[v0, v1] w (RetV (.bool true) w) := by
  obtain ⟨A0, n0, c0, rfl, _⟩ := id h0
  obtain ⟨A1, n1, c1, rfl, _⟩ := id h1
  go_enter Tryz.func4, Tryz.ntmps4
  have bb : Below w.heap.size w w := Below.refl _ _
  have hsz0 := bb.size
  go_wp2_with fail
  refine (few11_any A0 n0 c0 8 _ h0 (by omega)).mono ?_
  rintro e w1 ⟨V0, U0, p, rfl, hV, hU, hlp, hqp, hb1, hfV, hfU⟩
  have hsb1 := hb1.size
  have hl8p : p.length ≤ 8 := by omega
  have HLp := Lib.hid hlp
  clear hlp
  replace bb := bb.trans (hb1.mono bb.size)
  have hsz1 := bb.size
  obtain ⟨AV, cV, rfl, _, hmV⟩ := hV.shape
  obtain ⟨AU, cU, rfl, _, hmU⟩ := hU.shape
  go_wp2_with fail
  refine (few11_any A1 n1 c1 8 _ (ArgQs.below h1 bb) (by omega)).mono ?_
  rintro e w2 ⟨V1, U1, q, rfl, hS, hX, hlq, hqq, hb2, hfS, hfX⟩
  have hsb2 := hb2.size
  have hl8q : q.length ≤ 8 := by omega
  have HLq := Lib.hid hlq
  clear hlq
  replace hV := hV.below hb2
  replace hU := hU.below hb2
  replace bb := bb.trans (hb2.mono bb.size)
  have hsz2 := bb.size
  obtain ⟨AS, cS, rfl, _, hmS⟩ := hS.shape
  obtain ⟨AX, cX, rfl, _, hmX⟩ := hX.shape
  have HL3 : Hid (p.length ≤ 8 ∧ (∀ x ∈ p, lenQ x 3) ∧ ∀ x ∈ q, lenQ x 3) := ⟨hl8p, fun x hx => (hqp x hx).mono (by omega), fun x hx => (hqq x hx).mono (by omega)⟩
  have HP1 : Hid (∀ x ∈ p, lenQ x 1) := hqp
  have HQ1 : Hid (∀ x ∈ q, lenQ x 1) := hqq
  obtain ⟨D, hD⟩ : ∃ D, D = dotq p q := ⟨_, rfl⟩
  have HD := Lib.hid hD
  clear hqp hqq hD
  by_cases he : p.length = q.length
  · have HE := Lib.hid he
    have lD : lenQ D 25 := by rw [HD.out]; exact (lenQ_dotq HP1.out HQ1.out he).mono (by omega)
    clear he
    go_upto_region 3 with (fail)
    refine flowp 7 [Pd.eq (.slice AV p.length cV), Pd.eq (.slice AS q.length cS), pqe (D) 0, pqe (D) 0, pqn (D), Pd.eq (.int .i64 0), pn 28 #[.bool false, .slice none 0 0, .slice none 0 0] w2.heap.size] (by kernel_rfl) ?ob14 ?done14
    case ob14 =>
      refine And.intro (ob_move rfl (wt_none rfl) (ev_far rfl rfl) (fun _ _ h => h)) ?_
      refine And.intro (ob_move rfl (wt_none rfl) (ev_far rfl rfl) (fun _ _ h => h)) ?_
      refine And.intro (ob_call2 rfl Tryz.func16 (by kernel_rfl) (wt_none rfl) (ev_dep (j := 0) (by kernel_rfl) rfl rfl) (ev_dep (j := 1) (by kernel_rfl) rfl rfl) (fun w2 u0 u1 hb h0 h1 => by obtain rfl := h0; obtain rfl := h1; exact (HD.out ▸ fdot_ok _ _ p q _ (hV.below hb) (hS.below hb) HE.out HL3.out).mono fun e w3 h => RetQE.pd h)) ?_
      refine And.intro (ob_move rfl (wt_none rfl) (ev_dep (j := 2) (by kernel_rfl) rfl rfl) (fun _ _ h => h)) ?_
      refine And.intro (ob_extract rfl (wt_none rfl) (ev_dep (j := 3) (by kernel_rfl) rfl rfl) (fun w2 u hu => by obtain ⟨v, rfl, q1⟩ := hu; exact ⟨v, rfl, q1⟩)) ?_
      refine And.intro (ob_extract rfl (wt_none rfl) (ev_dep (j := 3) (by kernel_rfl) rfl rfl) (fun w2 u hu => by obtain ⟨v, rfl, q1⟩ := hu; exact ⟨_, rfl, rfl⟩)) ?_
      refine And.intro (ob_alloc (z := .agg #[.bool false, .slice none 0 0, .slice none 0 0]) rfl rfl (fun _ => by kernel_rfl) (fun _ _ hB h => ⟨_, rfl, hB, h⟩)) ?_
      trivial
    case done14 =>
      refine fun w3 hb3 v0 h0 v1 h1 v2 h2 v3 h3 v4 h4 v5 h5 v6 h6 d6 b hbf => ?_
      obtain rfl := h0; obtain rfl := h1; obtain rfl := h5
      clear h2
      clear h3
      have q4 := h4
      obtain ⟨g14_6, rfl, hg6, B6⟩ := h6
      simp only [Act.put, List.setIfInBounds_toArray, List.set_cons_zero, List.set_cons_succ] at hbf
      subst hbf
      replace hV := hV.below hb3
      replace hU := hU.below hb3
      replace hS := hS.below hb3
      replace hX := hX.below hb3
      replace bb := bb.trans (hb3.mono bb.size)
      have hsz3 := bb.size
      have hneV : (Value.slice AV p.length cV).ownBlock ≠ some g14_6 := fun e => by have := hfV _ e; omega
      have hneU : (Value.slice AU p.length cU).ownBlock ≠ some g14_6 := fun e => by have := hfU _ e; omega
      have hneS : (Value.slice AS q.length cS).ownBlock ≠ some g14_6 := fun e => by have := hfS _ e; omega
      have hneX : (Value.slice AX q.length cX).ownBlock ≠ some g14_6 := fun e => by have := hfX _ e; omega
      have BA7 := B6
      obtain ⟨u4, t4, rfl, q4, d4⟩ := q4
      obtain ⟨Ad, cd, rfl, _⟩ := id q4
      obtain ⟨Dd, ed, rfl, _⟩ := id d4
      refine ops_store (i := 7) rfl rfl rfl rfl rfl rfl (cells := [.bool (ngB (D).num), .slice Ad (digs 4294967296 (D).num.natAbs).length cd, .slice Dd (digs 4294967296 (D).den).length ed]) rfl BA7 rfl (by kernel_rfl) (one3 rfl rfl rfl) fun w4 hg4 BN4 => ?_
      replace hV := hV.off BA7 no_ints3 hg4 hneV
      replace hU := hU.off BA7 no_ints3 hg4 hneU
      replace hS := hS.off BA7 no_ints3 hg4 hneS
      replace hX := hX.off BA7 no_ints3 hg4 hneX
      replace q4 := off q4 BA7 no_ints3 hg4
      replace d4 := off d4 BA7 no_ints3 hg4
      replace bb := bb.trans ((Below.refl _ _).grown hg4 bb.size (fun g hg => by injection hg with hg; omega))
      have hsz4 := bb.size
      have Bd : Blk w4 (g14_6) _ _ := BN4
      have kds := q4
      have kdd := d4
      have kdz : IsZ w4 (.agg #[.bool (ngB (D).num), .slice Ad (digs 4294967296 (D).num.natAbs).length cd]) ((D).num) := ⟨_, rfl, kds⟩
      have kd : IsQ w4 (.agg #[.bool (ngB (D).num), .slice Ad (digs 4294967296 (D).num.natAbs).length cd, .slice Dd (digs 4294967296 (D).den).length ed]) (D) := ⟨_, _, rfl, kds, kdd⟩
      refine ops_assign (i := 8) (.int .i64 0) rfl rfl rfl rfl rfl fun b hbf => ?_
      simp only [Act.put, List.setIfInBounds_toArray, List.set_cons_zero, List.set_cons_succ] at hbf
      subst hbf
      refine ops_done ?_
      go_wp2
      go_loopw [9] (fun v9 wr => ∃ k : Nat, k ≤ p.length ∧ Hid (∀ x ∈ p.take k, x = 0) ∧ Below w4.heap.size w4 wr ∧ v9 = .int .i64 (k : Int)) (fun v9 _ => p.length - (RowKit.intOf v9).toNat)
      case atStart => exact ⟨0, by omega, (by show ∀ x ∈ _, _; intro x hx; simp at hx), Below.refl _ _, rfl⟩
      case round =>
        obtain ⟨k, hk, HA, hby, rfl⟩ := hrel
        replace Bd := Bd.below hby
        replace kds := kds.below hby
        replace kdd := kdd.below hby
        replace kdz := kdz.below hby
        replace kd := kd.below hby
        replace hV := hV.below hby
        replace hU := hU.below hby
        replace hS := hS.below hby
        replace hX := hX.below hby
        replace bb := bb.trans (hby.mono bb.size)
        have hsz5 := bb.size
        have hszr := bb.size
        by_cases hlt : k < p.length
        · obtain ⟨x, hx⟩ : ∃ x, p[k]? = some x := ⟨_, List.getElem?_eq_getElem hlt⟩
          have HX := Lib.hid hx
          have HLT : Hid (decide ((k : Int) < (p.length : Int)) = true) := decide_eq_true (by omega)
          clear hx
          obtain ⟨gU_, oU_, cU_, eU_, _, _, hmU_⟩ := hU.place (List.length_pos_iff.1 (by omega))
          injection eU_ with eU1 eU2 eU3
          subst eU1
          subst eU3
          obtain ⟨ue1, te1, hlte1, ze10, ze11, ze12, ze1s, ze1d⟩ := hU.at2 HX.out
          obtain ⟨Ae1, ce1, rfl, _⟩ := id ze1s
          obtain ⟨De1, ee1, rfl, _⟩ := id ze1d
          have ze1 : IsP wr (.agg #[.bool (ngB (x).num), .slice Ae1 (digs 10000 (x).num.natAbs).length ce1, .slice De1 (digs 10000 (x).den).length ee1]) (x) := ⟨_, _, rfl, ze1s, ze1d⟩
          by_cases hx0 : x = 0
          · have HZ : Hid (true = decide (x = 0)) := (decide_eq_true hx0).symm
            have HA2 : Hid (∀ y ∈ p.take (k + 1), y = 0) := by
              show ∀ y ∈ _, _
              rw [take_snoc HX.out]
              intro y hy
              rcases List.mem_append.1 hy with hy | hy
              · exact HA.out y hy
              · rw [List.mem_singleton.1 hy]; exact hx0
            clear hx0
            go_upto_region 5 with (fail)
            refine flowp 11 [Pd.eq (.int .i64 (k : Int)), Pd.eq (.slice (some ⟨gU_, oU_, none⟩) p.length cU), Pd.eq (.int .i64 ((p.length : Nat) : Int)), Pd.eq (.bool true), Pd.eq (.bool true), Pd.eq (.slice (some ⟨gU_, oU_, none⟩) p.length cU), Pd.eq (.int .i64 (k : Int)), Pd.eq (.pointer (some ⟨gU_, oU_ + k * 3, none⟩)), Pd.eq (.agg #[.bool (ngB (x).num), .slice Ae1 (digs 10000 (x).num.natAbs).length ce1, .slice De1 (digs 10000 (x).den).length ee1]), Pd.eq (.bool true), Pd.eq (.bool true)] (by kernel_rfl) ?ob16 ?done16
            case ob16 =>
              refine And.intro (ob_move rfl (wt_none rfl) (ev_far rfl rfl) (fun _ _ h => h)) ?_
              refine And.intro (ob_move rfl (wt_none rfl) (ev_far rfl rfl) (fun _ _ h => h)) ?_
              refine And.intro (ob_len rfl (wt_none rfl) (ev_dep (j := 1) (by kernel_rfl) rfl rfl) (fun _ _ hx => ⟨_, by rw [hx]; exact len_slice Tryz.underlying29 _ _ _ _, rfl⟩)) ?_
              refine And.intro (ob_bin rfl (wt_none rfl) (ev_dep (j := 0) (by kernel_rfl) rfl rfl) (ev_dep (j := 2) (by kernel_rfl) rfl rfl) (fun _ _ _ hx hy => ⟨.bool true, by rw [hx, hy, bin_lss_int, HLT.out], rfl⟩)) ?_
              refine And.intro (ob_move rfl (wt_none rfl) (ev_dep (j := 3) (by kernel_rfl) rfl rfl) (fun _ _ h => h)) ?_
              refine And.intro (ob_move rfl (wt_dep (c := true) (b := true) (g := 4) rfl (by kernel_rfl) rfl rfl rfl (by exact fun _ _ h => h)) (ev_far rfl rfl) (fun _ _ h => h)) ?_
              refine And.intro (ob_move rfl (wt_dep (c := true) (b := true) (g := 4) rfl (by kernel_rfl) rfl rfl rfl (by exact fun _ _ h => h)) (ev_far rfl rfl) (fun _ _ h => h)) ?_
              refine And.intro (ob_indexAddr rfl (wt_dep (c := true) (b := true) (g := 4) rfl (by kernel_rfl) rfl rfl rfl (by exact fun _ _ h => h)) (ev_dep (j := 5) (by kernel_rfl) rfl rfl) (ev_dep (j := 6) (by kernel_rfl) rfl rfl) (fun _ _ _ hx hy => ⟨_, by rw [hx, hy]; exact index3 (k := k) Tryz.underlying29 (by kernel_rfl) hlte1 _, rfl⟩)) ?_
              refine And.intro (ob_load rfl (wt_dep (c := true) (b := true) (g := 4) rfl (by kernel_rfl) rfl rfl rfl (by exact fun _ _ h => h)) (ev_dep (j := 7) (by kernel_rfl) rfl rfl) (fun w2 hb => load3 Tryz.underlying45 rfl (by kernel_rfl) ((hb.cell (World.block_lt_of_cell? wr _ ze10)).trans ze10) ((hb.cell (World.block_lt_of_cell? wr _ ze11)).trans ze11) ((hb.cell (World.block_lt_of_cell? wr _ ze12)).trans ze12)) (fun _ _ => rfl)) ?_
              refine And.intro (ob_call1 rfl Tryz.func17 (by kernel_rfl) (wt_dep (c := true) (b := true) (g := 4) rfl (by kernel_rfl) rfl rfl rfl (by exact fun _ _ h => h)) (ev_dep (j := 8) (by kernel_rfl) rfl rfl) (fun w2 u0 hb h0 => by obtain rfl := h0; exact (qzero_any _ x true _ (ze1.below hb) HZ.out).mono fun e w3 h => RetV.pd h)) ?_
              refine And.intro (ob_pick (b := true) rfl (wt_none rfl) (ev_dep (j := 4) (by kernel_rfl) rfl rfl) (ev_dep (j := 9) (by kernel_rfl) rfl rfl) (fun _ _ h => h)) ?_
              trivial
            case done16 =>
              refine fun w6 hb6 v0 h0 v1 h1 v2 h2 v3 h3 v4 h4 v5 h5 v6 h6 v7 h7 v8 h8 v9 h9 v10 h10 b hbf => ?_
              obtain rfl := h0; obtain rfl := h1; obtain rfl := h2; obtain rfl := h3; obtain rfl := h4; obtain rfl := h5; obtain rfl := h6; obtain rfl := h7; obtain rfl := h8; obtain rfl := h9; obtain rfl := h10
              simp only [Act.put, List.setIfInBounds_toArray, List.set_cons_zero, List.set_cons_succ] at hbf
              subst hbf
              replace Bd := Bd.below hb6
              replace kds := kds.below hb6
              replace kdd := kdd.below hb6
              replace kdz := kdz.below hb6
              replace kd := kd.below hb6
              replace hV := hV.below hb6
              replace hU := hU.below hb6
              replace hS := hS.below hb6
              replace hX := hX.below hb6
              replace bb := bb.trans (hb6.mono bb.size)
              have hsz6 := bb.size
              replace hby := hby.trans (hb6.mono hby.size)
              refine ops_done ?_
              go_wp2
              go_roundw
              case rel => exact ⟨k + 1, by omega, HA2, hby, by go_num⟩
              case measure => simp [RowKit.intOf]; omega
          · have HZ : Hid (false = decide (x = 0)) := (decide_eq_false hx0).symm
            have HK : Hid (leadq p = k) := leadq_is (by omega) HA.out (fun y hy => by rw [HX.out] at hy; exact Option.some.inj hy ▸ hx0)
            clear hx0
            go_upto_region 5 with (fail)
            refine flowp 11 [Pd.eq (.int .i64 (k : Int)), Pd.eq (.slice (some ⟨gU_, oU_, none⟩) p.length cU), Pd.eq (.int .i64 ((p.length : Nat) : Int)), Pd.eq (.bool true), Pd.eq (.bool true), Pd.eq (.slice (some ⟨gU_, oU_, none⟩) p.length cU), Pd.eq (.int .i64 (k : Int)), Pd.eq (.pointer (some ⟨gU_, oU_ + k * 3, none⟩)), Pd.eq (.agg #[.bool (ngB (x).num), .slice Ae1 (digs 10000 (x).num.natAbs).length ce1, .slice De1 (digs 10000 (x).den).length ee1]), Pd.eq (.bool false), Pd.eq (.bool false)] (by kernel_rfl) ?ob17 ?done17
            case ob17 =>
              refine And.intro (ob_move rfl (wt_none rfl) (ev_far rfl rfl) (fun _ _ h => h)) ?_
              refine And.intro (ob_move rfl (wt_none rfl) (ev_far rfl rfl) (fun _ _ h => h)) ?_
              refine And.intro (ob_len rfl (wt_none rfl) (ev_dep (j := 1) (by kernel_rfl) rfl rfl) (fun _ _ hx => ⟨_, by rw [hx]; exact len_slice Tryz.underlying29 _ _ _ _, rfl⟩)) ?_
              refine And.intro (ob_bin rfl (wt_none rfl) (ev_dep (j := 0) (by kernel_rfl) rfl rfl) (ev_dep (j := 2) (by kernel_rfl) rfl rfl) (fun _ _ _ hx hy => ⟨.bool true, by rw [hx, hy, bin_lss_int, HLT.out], rfl⟩)) ?_
              refine And.intro (ob_move rfl (wt_none rfl) (ev_dep (j := 3) (by kernel_rfl) rfl rfl) (fun _ _ h => h)) ?_
              refine And.intro (ob_move rfl (wt_dep (c := true) (b := true) (g := 4) rfl (by kernel_rfl) rfl rfl rfl (by exact fun _ _ h => h)) (ev_far rfl rfl) (fun _ _ h => h)) ?_
              refine And.intro (ob_move rfl (wt_dep (c := true) (b := true) (g := 4) rfl (by kernel_rfl) rfl rfl rfl (by exact fun _ _ h => h)) (ev_far rfl rfl) (fun _ _ h => h)) ?_
              refine And.intro (ob_indexAddr rfl (wt_dep (c := true) (b := true) (g := 4) rfl (by kernel_rfl) rfl rfl rfl (by exact fun _ _ h => h)) (ev_dep (j := 5) (by kernel_rfl) rfl rfl) (ev_dep (j := 6) (by kernel_rfl) rfl rfl) (fun _ _ _ hx hy => ⟨_, by rw [hx, hy]; exact index3 (k := k) Tryz.underlying29 (by kernel_rfl) hlte1 _, rfl⟩)) ?_
              refine And.intro (ob_load rfl (wt_dep (c := true) (b := true) (g := 4) rfl (by kernel_rfl) rfl rfl rfl (by exact fun _ _ h => h)) (ev_dep (j := 7) (by kernel_rfl) rfl rfl) (fun w2 hb => load3 Tryz.underlying45 rfl (by kernel_rfl) ((hb.cell (World.block_lt_of_cell? wr _ ze10)).trans ze10) ((hb.cell (World.block_lt_of_cell? wr _ ze11)).trans ze11) ((hb.cell (World.block_lt_of_cell? wr _ ze12)).trans ze12)) (fun _ _ => rfl)) ?_
              refine And.intro (ob_call1 rfl Tryz.func17 (by kernel_rfl) (wt_dep (c := true) (b := true) (g := 4) rfl (by kernel_rfl) rfl rfl rfl (by exact fun _ _ h => h)) (ev_dep (j := 8) (by kernel_rfl) rfl rfl) (fun w2 u0 hb h0 => by obtain rfl := h0; exact (qzero_any _ x false _ (ze1.below hb) HZ.out).mono fun e w3 h => RetV.pd h)) ?_
              refine And.intro (ob_pick (b := true) rfl (wt_none rfl) (ev_dep (j := 4) (by kernel_rfl) rfl rfl) (ev_dep (j := 9) (by kernel_rfl) rfl rfl) (fun _ _ h => h)) ?_
              trivial
            case done17 =>
              refine fun w6 hb6 v0 h0 v1 h1 v2 h2 v3 h3 v4 h4 v5 h5 v6 h6 v7 h7 v8 h8 v9 h9 v10 h10 b hbf => ?_
              obtain rfl := h0; obtain rfl := h1; obtain rfl := h2; obtain rfl := h3; obtain rfl := h4; obtain rfl := h5; obtain rfl := h6; obtain rfl := h7; obtain rfl := h8; obtain rfl := h9; obtain rfl := h10
              simp only [Act.put, List.setIfInBounds_toArray, List.set_cons_zero, List.set_cons_succ] at hbf
              subst hbf
              replace Bd := Bd.below hb6
              replace kds := kds.below hb6
              replace kdd := kdd.below hb6
              replace kdz := kdz.below hb6
              replace kd := kd.below hb6
              replace hV := hV.below hb6
              replace hU := hU.below hb6
              replace hS := hS.below hb6
              replace hX := hX.below hb6
              replace bb := bb.trans (hb6.mono bb.size)
              have hsz6 := bb.size
              replace hby := hby.trans (hb6.mono hby.size)
              refine ops_done ?_
              have HKI : Hid ((k : Int) = ((leadq p : Nat) : Int)) := by show _ = _; rw [HK.out]
              clear HA hby
              obtain ⟨T, hT⟩ : ∃ T, T = topq p := ⟨_, rfl⟩
              have HT := Lib.hid hT
              have HTI : Hid ((T : Int) = ((topq p : Nat) : Int)) := by show _ = _; rw [hT]
              clear hT
              obtain ⟨TB, hTB⟩ : ∃ TB, TB = decide (0 < p.length) := ⟨_, rfl⟩
              have HTB := Lib.hid hTB
              have HTB2 : Hid (decide ((0 : Int) < (p.length : Int)) = TB) := by show _ = _; rw [hTB]; exact decide_eq_decide.2 (by omega)
              clear hTB
              go_wp2_with fail
              refine (fgreatest_any _ p (T : Int) TB _ hV ⟨hl8p, HL3.out.2.1⟩ HTI.out HTB.out).mono ?_
              rintro e w20 ⟨rfl, b20⟩
              replace Bd := Bd.below b20
              replace kds := kds.below b20
              replace kdd := kdd.below b20
              replace kdz := kdz.below b20
              replace kd := kd.below b20
              replace hV := hV.below b20
              replace hU := hU.below b20
              replace hS := hS.below b20
              replace hX := hX.below b20
              replace bb := bb.trans (b20.mono bb.size)
              have hsz20 := bb.size
              go_wp2
              go_loopw [12, 13] (fun v12 v13 wr => ∃ j i : Nat, j ≤ p.length ∧ Hid (i = bestq p j) ∧ Below w20.heap.size w20 wr ∧ v12 = .int .i64 (i : Int) ∧ v13 = .int .i64 (j : Int)) (fun _ v13 _ => p.length - (RowKit.intOf v13).toNat)
              case atStart => exact ⟨0, 0, by omega, rfl, Below.refl _ _, rfl, rfl⟩
              case round =>
                obtain ⟨j, i, hj, HI, hby, rfl, rfl⟩ := hrel
                replace Bd := Bd.below hby
                replace kds := kds.below hby
                replace kdd := kdd.below hby
                replace kdz := kdz.below hby
                replace kd := kd.below hby
                replace hV := hV.below hby
                replace hU := hU.below hby
                replace hS := hS.below hby
                replace hX := hX.below hby
                replace bb := bb.trans (hby.mono bb.size)
                have hsz21 := bb.size
                have hszr2 := bb.size
                by_cases hlt2 : j < p.length
                · have hilt : i < p.length := by have := HI.out; rcases bestq_lt p j with h | h <;> omega
                  obtain ⟨x, hx⟩ : ∃ x, p[j]? = some x := ⟨_, List.getElem?_eq_getElem hlt2⟩
                  obtain ⟨y, hy⟩ : ∃ y, p[i]? = some y := ⟨_, List.getElem?_eq_getElem hilt⟩
                  have lx : lenQ x 1 := HP1.out x (List.mem_of_getElem? hx)
                  have ly : lenQ y 1 := HP1.out y (List.mem_of_getElem? hy)
                  have HXJ := Lib.hid hx
                  have HYI := Lib.hid hy
                  clear hx hy
                  obtain ⟨ue5, te5, hlte5, ze50, ze51, ze52, ze5s, ze5d⟩ := hU.at2 HXJ.out
                  obtain ⟨Ae5, ce5, rfl, _⟩ := id ze5s
                  obtain ⟨De5, ee5, rfl, _⟩ := id ze5d
                  have ze5 : IsP wr (.agg #[.bool (ngB (x).num), .slice Ae5 (digs 10000 (x).num.natAbs).length ce5, .slice De5 (digs 10000 (x).den).length ee5]) (x) := ⟨_, _, rfl, ze5s, ze5d⟩
                  obtain ⟨ue6, te6, hlte6, ze60, ze61, ze62, ze6s, ze6d⟩ := hU.at2 HYI.out
                  obtain ⟨Ae6, ce6, rfl, _⟩ := id ze6s
                  obtain ⟨De6, ee6, rfl, _⟩ := id ze6d
                  have ze6 : IsP wr (.agg #[.bool (ngB (y).num), .slice Ae6 (digs 10000 (y).num.natAbs).length ce6, .slice De6 (digs 10000 (y).den).length ee6]) (y) := ⟨_, _, rfl, ze6s, ze6d⟩
                  by_cases c2 : y < x
                  · have o2 : 0 < ordq x y := ordq_pos.2 c2
                    have HI2 : Hid (j = bestq p (j + 1)) := by have e := HI.out; have hy := HYI.out; rw [e] at hy; show _ = _; rw [bestq_yes HXJ.out hy c2]
                    clear c2
                    go_upto_region 12 with (fail)
                    refine flow 10 [Pd.eq (.slice (some ⟨gU_, oU_, none⟩) p.length cU), Pd.eq (.int .i64 (j : Int)), Pd.eq (.pointer (some ⟨gU_, oU_ + j * 3, none⟩)), Pd.eq (.agg #[.bool (ngB (x).num), .slice Ae5 (digs 10000 (x).num.natAbs).length ce5, .slice De5 (digs 10000 (x).den).length ee5]), Pd.eq (.slice (some ⟨gU_, oU_, none⟩) p.length cU), Pd.eq (.int .i64 (i : Int)), Pd.eq (.pointer (some ⟨gU_, oU_ + i * 3, none⟩)), Pd.eq (.agg #[.bool (ngB (y).num), .slice Ae6 (digs 10000 (y).num.natAbs).length ce6, .slice De6 (digs 10000 (y).den).length ee6]), Pd.eq (.int .i64 (ordq (x) (y))), Pd.eq (.bool (decide (0 < (ordq (x) (y)))))] (by kernel_rfl) (by kernel_rfl) ?ob18 ?done18
                    case ob18 =>
                      refine And.intro (ob_move rfl (wt_none rfl) (ev_far rfl rfl) (fun _ _ h => h)) ?_
                      refine And.intro (ob_move rfl (wt_none rfl) (ev_far rfl rfl) (fun _ _ h => h)) ?_
                      refine And.intro (ob_indexAddr rfl (wt_none rfl) (ev_dep (j := 0) (by kernel_rfl) rfl rfl) (ev_dep (j := 1) (by kernel_rfl) rfl rfl) (fun _ _ _ hx hy => ⟨_, by rw [hx, hy]; exact index3 (k := j) Tryz.underlying29 (by kernel_rfl) hlte5 _, rfl⟩)) ?_
                      refine And.intro (ob_load rfl (wt_none rfl) (ev_dep (j := 2) (by kernel_rfl) rfl rfl) (fun w2 hb => load3 Tryz.underlying45 rfl (by kernel_rfl) ((hb.cell (World.block_lt_of_cell? wr _ ze50)).trans ze50) ((hb.cell (World.block_lt_of_cell? wr _ ze51)).trans ze51) ((hb.cell (World.block_lt_of_cell? wr _ ze52)).trans ze52)) (fun _ _ => rfl)) ?_
                      refine And.intro (ob_move rfl (wt_none rfl) (ev_far rfl rfl) (fun _ _ h => h)) ?_
                      refine And.intro (ob_move rfl (wt_none rfl) (ev_far rfl rfl) (fun _ _ h => h)) ?_
                      refine And.intro (ob_indexAddr rfl (wt_none rfl) (ev_dep (j := 4) (by kernel_rfl) rfl rfl) (ev_dep (j := 5) (by kernel_rfl) rfl rfl) (fun _ _ _ hx hy => ⟨_, by rw [hx, hy]; exact index3 (k := i) Tryz.underlying29 (by kernel_rfl) hlte6 _, rfl⟩)) ?_
                      refine And.intro (ob_load rfl (wt_none rfl) (ev_dep (j := 6) (by kernel_rfl) rfl rfl) (fun w2 hb => load3 Tryz.underlying45 rfl (by kernel_rfl) ((hb.cell (World.block_lt_of_cell? wr _ ze60)).trans ze60) ((hb.cell (World.block_lt_of_cell? wr _ ze61)).trans ze61) ((hb.cell (World.block_lt_of_cell? wr _ ze62)).trans ze62)) (fun _ _ => rfl)) ?_
                      refine And.intro (ob_call2 rfl Tryz.func19 (by kernel_rfl) (wt_none rfl) (ev_dep (j := 3) (by kernel_rfl) rfl rfl) (ev_dep (j := 7) (by kernel_rfl) rfl rfl) (fun w2 u0 u1 hb h0 h1 => by obtain rfl := h0; obtain rfl := h1; exact (qcmp_any _ (x) _ (y) _ _ (ze5.drew.below hb) (ze6.drew.below hb) (lx.mono (by decide)) (ly.mono (by decide)) rfl).mono fun e w3 h => RetV.pd h)) ?_
                      refine And.intro (ob_bin rfl (wt_none rfl) (ev_dep (j := 8) (by kernel_rfl) rfl rfl) (ev_const _) (fun _ _ _ hx hy => ⟨.bool (decide (0 < (ordq (x) (y)))), by rw [hx, hy]; exact bin_gtr_int _ _ _ _ _, rfl⟩)) ?_
                      trivial
                    case done18 =>
                      refine fun w22 hb22 v0 h0 v1 h1 v2 h2 v3 h3 v4 h4 v5 h5 v6 h6 v7 h7 v8 h8 v9 h9 b hbf => ?_
                      obtain rfl := h0; obtain rfl := h1; obtain rfl := h2; obtain rfl := h3; obtain rfl := h4; obtain rfl := h5; obtain rfl := h6; obtain rfl := h7; obtain rfl := h8; obtain rfl := h9
                      simp only [Act.put, List.setIfInBounds_toArray, List.set_cons_zero, List.set_cons_succ] at hbf
                      subst hbf
                      replace Bd := Bd.below hb22
                      replace kds := kds.below hb22
                      replace kdd := kdd.below hb22
                      replace kdz := kdz.below hb22
                      replace kd := kd.below hb22
                      replace hV := hV.below hb22
                      replace hU := hU.below hb22
                      replace hS := hS.below hb22
                      replace hX := hX.below hb22
                      replace bb := bb.trans (hb22.mono bb.size)
                      have hsz22 := bb.size
                      replace hby := hby.trans (hb22.mono hby.size)
                      refine any_done (by kernel_rfl) ?_
                      go_wp2
                      go_roundw
                      case rel => exact ⟨j + 1, j, by omega, HI2, hby, rfl, by go_num⟩
                      case measure => simp [RowKit.intOf]; omega
                  · have o2 : ¬ 0 < ordq x y := fun h => c2 (ordq_pos.1 h)
                    have HI2 : Hid (i = bestq p (j + 1)) := by have e := HI.out; have hy := HYI.out; rw [e] at hy; show _ = _; rw [bestq_no HXJ.out hy c2]; exact e
                    clear c2
                    go_upto_region 12 with (fail)
                    refine flow 10 [Pd.eq (.slice (some ⟨gU_, oU_, none⟩) p.length cU), Pd.eq (.int .i64 (j : Int)), Pd.eq (.pointer (some ⟨gU_, oU_ + j * 3, none⟩)), Pd.eq (.agg #[.bool (ngB (x).num), .slice Ae5 (digs 10000 (x).num.natAbs).length ce5, .slice De5 (digs 10000 (x).den).length ee5]), Pd.eq (.slice (some ⟨gU_, oU_, none⟩) p.length cU), Pd.eq (.int .i64 (i : Int)), Pd.eq (.pointer (some ⟨gU_, oU_ + i * 3, none⟩)), Pd.eq (.agg #[.bool (ngB (y).num), .slice Ae6 (digs 10000 (y).num.natAbs).length ce6, .slice De6 (digs 10000 (y).den).length ee6]), Pd.eq (.int .i64 (ordq (x) (y))), Pd.eq (.bool (decide (0 < (ordq (x) (y)))))] (by kernel_rfl) (by kernel_rfl) ?ob19 ?done19
                    case ob19 =>
                      refine And.intro (ob_move rfl (wt_none rfl) (ev_far rfl rfl) (fun _ _ h => h)) ?_
                      refine And.intro (ob_move rfl (wt_none rfl) (ev_far rfl rfl) (fun _ _ h => h)) ?_
                      refine And.intro (ob_indexAddr rfl (wt_none rfl) (ev_dep (j := 0) (by kernel_rfl) rfl rfl) (ev_dep (j := 1) (by kernel_rfl) rfl rfl) (fun _ _ _ hx hy => ⟨_, by rw [hx, hy]; exact index3 (k := j) Tryz.underlying29 (by kernel_rfl) hlte5 _, rfl⟩)) ?_
                      refine And.intro (ob_load rfl (wt_none rfl) (ev_dep (j := 2) (by kernel_rfl) rfl rfl) (fun w2 hb => load3 Tryz.underlying45 rfl (by kernel_rfl) ((hb.cell (World.block_lt_of_cell? wr _ ze50)).trans ze50) ((hb.cell (World.block_lt_of_cell? wr _ ze51)).trans ze51) ((hb.cell (World.block_lt_of_cell? wr _ ze52)).trans ze52)) (fun _ _ => rfl)) ?_
                      refine And.intro (ob_move rfl (wt_none rfl) (ev_far rfl rfl) (fun _ _ h => h)) ?_
                      refine And.intro (ob_move rfl (wt_none rfl) (ev_far rfl rfl) (fun _ _ h => h)) ?_
                      refine And.intro (ob_indexAddr rfl (wt_none rfl) (ev_dep (j := 4) (by kernel_rfl) rfl rfl) (ev_dep (j := 5) (by kernel_rfl) rfl rfl) (fun _ _ _ hx hy => ⟨_, by rw [hx, hy]; exact index3 (k := i) Tryz.underlying29 (by kernel_rfl) hlte6 _, rfl⟩)) ?_
                      refine And.intro (ob_load rfl (wt_none rfl) (ev_dep (j := 6) (by kernel_rfl) rfl rfl) (fun w2 hb => load3 Tryz.underlying45 rfl (by kernel_rfl) ((hb.cell (World.block_lt_of_cell? wr _ ze60)).trans ze60) ((hb.cell (World.block_lt_of_cell? wr _ ze61)).trans ze61) ((hb.cell (World.block_lt_of_cell? wr _ ze62)).trans ze62)) (fun _ _ => rfl)) ?_
                      refine And.intro (ob_call2 rfl Tryz.func19 (by kernel_rfl) (wt_none rfl) (ev_dep (j := 3) (by kernel_rfl) rfl rfl) (ev_dep (j := 7) (by kernel_rfl) rfl rfl) (fun w2 u0 u1 hb h0 h1 => by obtain rfl := h0; obtain rfl := h1; exact (qcmp_any _ (x) _ (y) _ _ (ze5.drew.below hb) (ze6.drew.below hb) (lx.mono (by decide)) (ly.mono (by decide)) rfl).mono fun e w3 h => RetV.pd h)) ?_
                      refine And.intro (ob_bin rfl (wt_none rfl) (ev_dep (j := 8) (by kernel_rfl) rfl rfl) (ev_const _) (fun _ _ _ hx hy => ⟨.bool (decide (0 < (ordq (x) (y)))), by rw [hx, hy]; exact bin_gtr_int _ _ _ _ _, rfl⟩)) ?_
                      trivial
                    case done19 =>
                      refine fun w22 hb22 v0 h0 v1 h1 v2 h2 v3 h3 v4 h4 v5 h5 v6 h6 v7 h7 v8 h8 v9 h9 b hbf => ?_
                      obtain rfl := h0; obtain rfl := h1; obtain rfl := h2; obtain rfl := h3; obtain rfl := h4; obtain rfl := h5; obtain rfl := h6; obtain rfl := h7; obtain rfl := h8; obtain rfl := h9
                      simp only [Act.put, List.setIfInBounds_toArray, List.set_cons_zero, List.set_cons_succ] at hbf
                      subst hbf
                      replace Bd := Bd.below hb22
                      replace kds := kds.below hb22
                      replace kdd := kdd.below hb22
                      replace kdz := kdz.below hb22
                      replace kd := kd.below hb22
                      replace hV := hV.below hb22
                      replace hU := hU.below hb22
                      replace hS := hS.below hb22
                      replace hX := hX.below hb22
                      replace bb := bb.trans (hb22.mono bb.size)
                      have hsz22 := bb.size
                      replace hby := hby.trans (hb22.mono hby.size)
                      refine any_done (by kernel_rfl) ?_
                      go_wp2
                      go_roundw
                      case rel => exact ⟨j + 1, i, by omega, HI2, hby, rfl, by go_num⟩
                      case measure => simp [RowKit.intOf]; omega
                · obtain rfl : i = T := by rw [HI.out, HT.out, topq, show j = p.length by omega]
                  obtain ⟨SB, hSB⟩ : ∃ SB, SB = decide (p = q) := ⟨_, rfl⟩
                  obtain ⟨IT, hIT⟩ : ∃ IT : Int, IT = if p = q then 1 else 0 := ⟨_, rfl⟩
                  have HSB := Lib.hid hSB
                  have HIT := Lib.hid hIT
                  have HIS : Hid ((IT == 1) = SB) := by
                    show _ = _
                    rw [hIT, hSB]
                    by_cases c : p = q
                    · rw [if_pos c, decide_eq_true c]; rfl
                    · rw [if_neg c, decide_eq_false c]; rfl
                  have HLL : Hid (p.length ≤ 200 ∧ ∀ x ∈ p, lenQ x 3) := ⟨by omega, HL3.out.2.1⟩
                  have HLS : Hid (p.length ≤ 8 ∧ (∀ x ∈ p, lenQ x 3) ∧ ∀ x ∈ p, lenQ x 3) := ⟨by omega, HL3.out.2.1, HL3.out.2.1⟩
                  have HQL : Hid (∀ x ∈ q, lenQ x 30000) := fun x hx => (HQ1.out x hx).mono (by decide)
                  clear hSB hIT HI HT
                  go_upto_region 14 with (fail)
                  refine flowp 10 [Pd.eq (.int .i64 (i : Int)), Pd.eq (.int .i64 (i : Int)), Pd.eq (.bool false), Pd.eq (.bool false), Pd.eq (.bool TB), Pd.eq (.slice (some ⟨gU_, oU_, none⟩) p.length cU), Pd.eq (.int .i64 ((p.length : Nat) : Int)), Pd.eq (.bool TB), Pd.eq (.bool false), Pd.eq (.bool false)] (by kernel_rfl) ?ob20 ?done20
                  case ob20 =>
                    refine And.intro (ob_move rfl (wt_none rfl) (ev_far rfl rfl) (fun _ _ h => h)) ?_
                    refine And.intro (ob_move rfl (wt_none rfl) (ev_far rfl rfl) (fun _ _ h => h)) ?_
                    refine And.intro (ob_bin rfl (wt_none rfl) (ev_dep (j := 0) (by kernel_rfl) rfl rfl) (ev_dep (j := 1) (by kernel_rfl) rfl rfl) (fun _ _ _ hx hy => ⟨.bool false, by rw [hx, hy, bin_neq_int, bne_self_eq_false], rfl⟩)) ?_
                    refine And.intro (ob_move rfl (wt_none rfl) (ev_dep (j := 2) (by kernel_rfl) rfl rfl) (fun _ _ h => h)) ?_
                    refine And.intro (ob_move rfl (wt_dep (c := false) (b := false) (g := 3) rfl (by kernel_rfl) rfl rfl rfl (by exact fun _ _ h => h)) (ev_far rfl rfl) (fun _ _ h => h)) ?_
                    refine And.intro (ob_move rfl (wt_dep (c := false) (b := false) (g := 3) rfl (by kernel_rfl) rfl rfl rfl (by exact fun _ _ h => h)) (ev_far rfl rfl) (fun _ _ h => h)) ?_
                    refine And.intro (ob_len rfl (wt_dep (c := false) (b := false) (g := 3) rfl (by kernel_rfl) rfl rfl rfl (by exact fun _ _ h => h)) (ev_dep (j := 5) (by kernel_rfl) rfl rfl) (fun _ _ hx => ⟨_, by rw [hx]; exact len_slice Tryz.underlying29 _ _ _ _, rfl⟩)) ?_
                    refine And.intro (ob_bin rfl (wt_dep (c := false) (b := false) (g := 3) rfl (by kernel_rfl) rfl rfl rfl (by exact fun _ _ h => h)) (ev_dep (j := 6) (by kernel_rfl) rfl rfl) (ev_const _) (fun _ _ _ hx hy => ⟨.bool TB, by rw [hx, hy, bin_gtr_int, HTB2.out], rfl⟩)) ?_
                    refine And.intro (ob_bin rfl (wt_dep (c := false) (b := false) (g := 3) rfl (by kernel_rfl) rfl rfl rfl (by exact fun _ _ h => h)) (ev_dep (j := 4) (by kernel_rfl) rfl rfl) (ev_dep (j := 7) (by kernel_rfl) rfl rfl) (fun _ _ _ hx hy => ⟨.bool false, by rw [hx, hy, bin_neq_bool _ _ _ _ Tryz.underlying4, beq_self_eq_true, Bool.not_true], rfl⟩)) ?_
                    refine And.intro (ob_pick (b := false) rfl (wt_none rfl) (ev_dep (j := 3) (by kernel_rfl) rfl rfl) (ev_dep (j := 8) (by kernel_rfl) rfl rfl) (fun _ _ h => h)) ?_
                    trivial
                  case done20 =>
                    refine fun w22 hb22 v0 h0 v1 h1 v2 h2 v3 h3 v4 h4 v5 h5 v6 h6 v7 h7 v8 h8 v9 h9 b hbf => ?_
                    obtain rfl := h0; obtain rfl := h1; obtain rfl := h2; obtain rfl := h3; obtain rfl := h4; obtain rfl := h5; obtain rfl := h6; obtain rfl := h7; obtain rfl := h8; obtain rfl := h9
                    simp only [Act.put, List.setIfInBounds_toArray, List.set_cons_zero, List.set_cons_succ] at hbf
                    subst hbf
                    replace Bd := Bd.below hb22
                    replace kds := kds.below hb22
                    replace kdd := kdd.below hb22
                    replace kdz := kdz.below hb22
                    replace kd := kd.below hb22
                    replace hV := hV.below hb22
                    replace hU := hU.below hb22
                    replace hS := hS.below hb22
                    replace hX := hX.below hb22
                    replace bb := bb.trans (hb22.mono bb.size)
                    have hsz22 := bb.size
                    replace hby := hby.trans (hb22.mono hby.size)
                    refine ops_done ?_
                    go_upto_region 16 with (fail)
                    refine flowp 20 [Pd.eq (.slice AV p.length cV), Pd.eq (.int .i64 (k : Int)), Pd.eq (.int .i64 (k : Int)), Pd.eq (.bool false), Pd.eq (.bool false), Pd.eq (.slice AV p.length cV), Pd.eq (.slice AS q.length cS), Pd.eq (.bool SB), Pd.eq (.slice AV p.length cV), Pd.eq (.slice AX q.length cX), Pd.eq (.int .i64 IT), Pd.eq (.bool SB), Pd.eq (.bool false), Pd.eq (.bool false), Pd.eq (.bool false), Pd.eq (.slice AV p.length cV), Pd.eq (.slice AV p.length cV), Pd.eq (.bool true), Pd.eq (.bool false), Pd.eq (.bool false)] (by kernel_rfl) ?ob21 ?done21
                    case ob21 =>
                      refine And.intro (ob_move rfl (wt_none rfl) (ev_far rfl rfl) (fun _ _ h => h)) ?_
                      refine And.intro (ob_call1 rfl Tryz.func20 (by kernel_rfl) (wt_none rfl) (ev_dep (j := 0) (by kernel_rfl) rfl rfl) (fun w2 u0 hb h0 => by obtain rfl := h0; exact (flead_any _ p (k : Int) _ (hV.below hb) HLL.out HKI.out).mono fun e w3 h => RetV.pd h)) ?_
                      refine And.intro (ob_move rfl (wt_none rfl) (ev_far rfl rfl) (fun _ _ h => h)) ?_
                      refine And.intro (ob_bin rfl (wt_none rfl) (ev_dep (j := 1) (by kernel_rfl) rfl rfl) (ev_dep (j := 2) (by kernel_rfl) rfl rfl) (fun _ _ _ hx hy => ⟨.bool false, by rw [hx, hy, bin_neq_int, bne_self_eq_false], rfl⟩)) ?_
                      refine And.intro (ob_move rfl (wt_none rfl) (ev_dep (j := 3) (by kernel_rfl) rfl rfl) (fun _ _ h => h)) ?_
                      refine And.intro (ob_move rfl (wt_dep (c := false) (b := false) (g := 4) rfl (by kernel_rfl) rfl rfl rfl (by exact fun _ _ h => h)) (ev_far rfl rfl) (fun _ _ h => h)) ?_
                      refine And.intro (ob_move rfl (wt_dep (c := false) (b := false) (g := 4) rfl (by kernel_rfl) rfl rfl rfl (by exact fun _ _ h => h)) (ev_far rfl rfl) (fun _ _ h => h)) ?_
                      refine And.intro (ob_call2 rfl Tryz.func21 (by kernel_rfl) (wt_dep (c := false) (b := false) (g := 4) rfl (by kernel_rfl) rfl rfl rfl (by exact fun _ _ h => h)) (ev_dep (j := 5) (by kernel_rfl) rfl rfl) (ev_dep (j := 6) (by kernel_rfl) rfl rfl) (fun w2 u0 u1 hb h0 h1 => by obtain rfl := h0; obtain rfl := h1; exact (fvsame_any _ _ p q SB _ (hV.below hb) (hS.below hb) HL3.out HSB.out).mono fun e w3 h => RetV.pd h)) ?_
                      refine And.intro (ob_move rfl (wt_dep (c := false) (b := false) (g := 4) rfl (by kernel_rfl) rfl rfl rfl (by exact fun _ _ h => h)) (ev_far rfl rfl) (fun _ _ h => h)) ?_
                      refine And.intro (ob_move rfl (wt_dep (c := false) (b := false) (g := 4) rfl (by kernel_rfl) rfl rfl rfl (by exact fun _ _ h => h)) (ev_far rfl rfl) (fun _ _ h => h)) ?_
                      refine And.intro (ob_call2 rfl Tryz.func9 (by kernel_rfl) (wt_dep (c := false) (b := false) (g := 4) rfl (by kernel_rfl) rfl rfl rfl (by exact fun _ _ h => h)) (ev_dep (j := 8) (by kernel_rfl) rfl rfl) (ev_dep (j := 9) (by kernel_rfl) rfl rfl) (fun w2 u0 u1 hb h0 h1 => by obtain rfl := h0; obtain rfl := h1; exact (is_any _ _ p q IT _ (hV.below hb) (hX.below hb) HQL.out HIT.out).mono fun e w3 h => RetV.pd h)) ?_
                      refine And.intro (ob_bin rfl (wt_dep (c := false) (b := false) (g := 4) rfl (by kernel_rfl) rfl rfl rfl (by exact fun _ _ h => h)) (ev_dep (j := 10) (by kernel_rfl) rfl rfl) (ev_const _) (fun _ _ _ hx hy => ⟨.bool SB, by rw [hx, hy, bin_eql_int, HIS.out], rfl⟩)) ?_
                      refine And.intro (ob_bin rfl (wt_dep (c := false) (b := false) (g := 4) rfl (by kernel_rfl) rfl rfl rfl (by exact fun _ _ h => h)) (ev_dep (j := 7) (by kernel_rfl) rfl rfl) (ev_dep (j := 11) (by kernel_rfl) rfl rfl) (fun _ _ _ hx hy => ⟨.bool false, by rw [hx, hy, bin_neq_bool _ _ _ _ Tryz.underlying4, beq_self_eq_true, Bool.not_true], rfl⟩)) ?_
                      refine And.intro (ob_pick (b := false) rfl (wt_none rfl) (ev_dep (j := 4) (by kernel_rfl) rfl rfl) (ev_dep (j := 12) (by kernel_rfl) rfl rfl) (fun _ _ h => h)) ?_
                      refine And.intro (ob_move rfl (wt_none rfl) (ev_dep (j := 13) (by kernel_rfl) rfl rfl) (fun _ _ h => h)) ?_
                      refine And.intro (ob_move rfl (wt_dep (c := false) (b := false) (g := 14) rfl (by kernel_rfl) rfl rfl rfl (by exact fun _ _ h => h)) (ev_far rfl rfl) (fun _ _ h => h)) ?_
                      refine And.intro (ob_move rfl (wt_dep (c := false) (b := false) (g := 14) rfl (by kernel_rfl) rfl rfl rfl (by exact fun _ _ h => h)) (ev_far rfl rfl) (fun _ _ h => h)) ?_
                      refine And.intro (ob_call2 rfl Tryz.func21 (by kernel_rfl) (wt_dep (c := false) (b := false) (g := 14) rfl (by kernel_rfl) rfl rfl rfl (by exact fun _ _ h => h)) (ev_dep (j := 15) (by kernel_rfl) rfl rfl) (ev_dep (j := 16) (by kernel_rfl) rfl rfl) (fun w2 u0 u1 hb h0 h1 => by obtain rfl := h0; obtain rfl := h1; exact (fvsame_any _ _ p p true _ (hV.below hb) (hV.below hb) HLS.out (decide_eq_true rfl).symm).mono fun e w3 h => RetV.pd h)) ?_
                      refine And.intro (ob_un rfl (wt_dep (c := false) (b := false) (g := 14) rfl (by kernel_rfl) rfl rfl rfl (by exact fun _ _ h => h)) (ev_dep (j := 17) (by kernel_rfl) rfl rfl) (fun _ => un_not _ _) (fun _ => rfl)) ?_
                      refine And.intro (ob_pick (b := false) rfl (wt_none rfl) (ev_dep (j := 14) (by kernel_rfl) rfl rfl) (ev_dep (j := 18) (by kernel_rfl) rfl rfl) (fun _ _ h => h)) ?_
                      trivial
                    case done21 =>
                      refine fun w23 hb23 v0 h0 v1 h1 v2 h2 v3 h3 v4 h4 v5 h5 v6 h6 v7 h7 v8 h8 v9 h9 v10 h10 v11 h11 v12 h12 v13 h13 v14 h14 v15 h15 v16 h16 v17 h17 v18 h18 v19 h19 b hbf => ?_
                      obtain rfl := h0; obtain rfl := h1; obtain rfl := h2; obtain rfl := h3; obtain rfl := h4; obtain rfl := h5; obtain rfl := h6; obtain rfl := h7; obtain rfl := h8; obtain rfl := h9; obtain rfl := h10; obtain rfl := h11; obtain rfl := h12; obtain rfl := h13; obtain rfl := h14; obtain rfl := h15; obtain rfl := h16; obtain rfl := h17; obtain rfl := h18; obtain rfl := h19
                      simp only [Act.put, List.setIfInBounds_toArray, List.set_cons_zero, List.set_cons_succ] at hbf
                      subst hbf
                      replace Bd := Bd.below hb23
                      replace kds := kds.below hb23
                      replace kdd := kdd.below hb23
                      replace kdz := kdz.below hb23
                      replace kd := kd.below hb23
                      replace hV := hV.below hb23
                      replace hU := hU.below hb23
                      replace hS := hS.below hb23
                      replace hX := hX.below hb23
                      replace bb := bb.trans (hb23.mono bb.size)
                      have hsz23 := bb.size
                      replace hby := hby.trans (hb23.mono hby.size)
                      refine ops_done ?_
                      have hE := HE.out
                      have heb : (((p.length : Nat) : Int) == ((q.length : Nat) : Int)) = true := by rw [beq_iff_eq]; omega
                      clear hE
                      go_upto_region 20 with (fail)
                      refine flow 14 [Pd.eq (.int .i64 0), Pd.eq (.bool true), Pd.eq (.bool true), Pd.eq (.agg #[.bool (ngB (D).num), .slice Ad (digs 4294967296 (D).num.natAbs).length cd, .slice Dd (digs 4294967296 (D).den).length ed]), Pd.eq (.slice (some ⟨gU_, oU_, none⟩) p.length cU), Pd.eq (.slice AX q.length cX), pp (D), pqn (D), Pd.eq (.bool true), Pd.eq (.bool true), Pd.eq (.bool true), Pd.eq (.bool true), Pd.eq (.bool true), Pd.eq (.bool true)] (by kernel_rfl) (by kernel_rfl) ?ob22 ?done22
                      case ob22 =>
                        refine And.intro (ob_move rfl (wt_none rfl) (ev_far rfl rfl) (fun _ _ h => h)) ?_
                        refine And.intro (ob_bin rfl (wt_none rfl) (ev_dep (j := 0) (by kernel_rfl) rfl rfl) (ev_const _) (fun _ _ _ hx hy => ⟨.bool true, by rw [hx, hy, bin_eql_int]; rfl, rfl⟩)) ?_
                        refine And.intro (ob_move rfl (wt_none rfl) (ev_dep (j := 1) (by kernel_rfl) rfl rfl) (fun _ _ h => h)) ?_
                        refine And.intro (ob_load rfl (wt_dep (c := true) (b := true) (g := 2) rfl (by kernel_rfl) rfl rfl rfl (by exact fun _ _ h => h)) (ev_far rfl rfl) (fun w2 hb => run_loadAll Tryz.underlying28 rfl (by kernel_rfl) (Bd.drew.below hb)) (fun _ _ => rfl)) ?_
                        refine And.intro (ob_move rfl (wt_dep (c := true) (b := true) (g := 2) rfl (by kernel_rfl) rfl rfl rfl (by exact fun _ _ h => h)) (ev_far rfl rfl) (fun _ _ h => h)) ?_
                        refine And.intro (ob_move rfl (wt_dep (c := true) (b := true) (g := 2) rfl (by kernel_rfl) rfl rfl rfl (by exact fun _ _ h => h)) (ev_far rfl rfl) (fun _ _ h => h)) ?_
                        refine And.intro (ob_call2 rfl Tryz.func24 (by kernel_rfl) (wt_dep (c := true) (b := true) (g := 2) rfl (by kernel_rfl) rfl rfl rfl (by exact fun _ _ h => h)) (ev_dep (j := 4) (by kernel_rfl) rfl rfl) (ev_dep (j := 5) (by kernel_rfl) rfl rfl) (fun w2 u0 u1 hb h0 h1 => by obtain rfl := h0; obtain rfl := h1; exact (HD.out ▸ rdot_any _ _ p q 1 _ (hU.drew.below hb) (hX.drew.below hb) HE.out ⟨HP1.out, HQ1.out, by omega⟩).mono fun e w3 h => RetP.pd h)) ?_
                        refine And.intro (ob_call1 rfl Tryz.func23 (by kernel_rfl) (wt_dep (c := true) (b := true) (g := 2) rfl (by kernel_rfl) rfl rfl rfl (by exact fun _ _ h => h)) (ev_dep (j := 6) (by kernel_rfl) rfl rfl) (fun w2 u0 hb h0 => by exact (qback_any _ _ _ h0 (lD.mono (by decide))).mono fun e w3 h => RetQn.pd (RetQ.n h))) ?_
                        refine And.intro (ob_call2 rfl Tryz.func22 (by kernel_rfl) (wt_dep (c := true) (b := true) (g := 2) rfl (by kernel_rfl) rfl rfl rfl (by exact fun _ _ h => h)) (ev_dep (j := 3) (by kernel_rfl) rfl rfl) (ev_dep (j := 7) (by kernel_rfl) rfl rfl) (fun w2 u0 u1 hb h0 h1 => by obtain rfl := h0; exact (qsame_eq _ _ (D) (D) _ (kd.drew.below hb) h1 rfl).mono fun e w3 h => RetV.pd h)) ?_
                        refine And.intro (ob_pick (b := true) rfl (wt_none rfl) (ev_dep (j := 2) (by kernel_rfl) rfl rfl) (ev_dep (j := 8) (by kernel_rfl) rfl rfl) (fun _ _ h => h)) ?_
                        refine And.intro (ob_move rfl (wt_none rfl) (ev_dep (j := 9) (by kernel_rfl) rfl rfl) (fun _ _ h => h)) ?_
                        refine And.intro (ob_call0 rfl Tryz.func13 (by kernel_rfl) (wt_dep (c := true) (b := true) (g := 10) rfl (by kernel_rfl) rfl rfl rfl (by exact fun _ _ h => h)) (fun w2 hb => (works11_any _).mono fun e w3 h => RetV.pd h)) ?_
                        refine And.intro (ob_pick (b := true) rfl (wt_none rfl) (ev_dep (j := 10) (by kernel_rfl) rfl rfl) (ev_dep (j := 11) (by kernel_rfl) rfl rfl) (fun _ _ h => h)) ?_
                        refine And.intro (ob_assign rfl (wt_none rfl) (ev_dep (j := 12) (by kernel_rfl) rfl rfl) (fun _ _ h => h)) ?_
                        trivial
                      case done22 =>
                        refine fun w24 hb24 v0 h0 v1 h1 v2 h2 v3 h3 v4 h4 v5 h5 v6 h6 v7 h7 v8 h8 v9 h9 v10 h10 v11 h11 v12 h12 v13 h13 b hbf => ?_
                        obtain rfl := h0; obtain rfl := h1; obtain rfl := h2; obtain rfl := h3; obtain rfl := h4; obtain rfl := h5; obtain rfl := h8; obtain rfl := h9; obtain rfl := h10; obtain rfl := h11; obtain rfl := h12; obtain rfl := h13
                        have q6 := h6
                        have q7 := h7
                        simp only [Act.put, List.setIfInBounds_toArray, List.set_cons_zero, List.set_cons_succ] at hbf
                        subst hbf
                        replace Bd := Bd.below hb24
                        replace kds := kds.below hb24
                        replace kdd := kdd.below hb24
                        replace kdz := kdz.below hb24
                        replace kd := kd.below hb24
                        replace hV := hV.below hb24
                        replace hU := hU.below hb24
                        replace hS := hS.below hb24
                        replace hX := hX.below hb24
                        replace bb := bb.trans (hb24.mono bb.size)
                        have hsz24 := bb.size
                        replace hby := hby.trans (hb24.mono hby.size)
                        refine any_done (by kernel_rfl) ?_
                        go_wp2
                        go_ret
                        exact ⟨rfl, bb⟩
        · have HLT : Hid (decide ((k : Int) < (p.length : Int)) = false) := decide_eq_false (by omega)
          have HK : Hid (leadq p = k) := leadq_is (by omega) HA.out (fun y hy => by have := (List.getElem?_eq_some_iff.1 hy).1; omega)
          have HKI : Hid ((k : Int) = ((leadq p : Nat) : Int)) := by show _ = _; rw [HK.out]
          clear HA hby
          obtain ⟨T, hT⟩ : ∃ T, T = topq p := ⟨_, rfl⟩
          have HT := Lib.hid hT
          have HTI : Hid ((T : Int) = ((topq p : Nat) : Int)) := by show _ = _; rw [hT]
          clear hT
          obtain ⟨TB, hTB⟩ : ∃ TB, TB = decide (0 < p.length) := ⟨_, rfl⟩
          have HTB := Lib.hid hTB
          have HTB2 : Hid (decide ((0 : Int) < (p.length : Int)) = TB) := by show _ = _; rw [hTB]; exact decide_eq_decide.2 (by omega)
          clear hTB
          go_wp2_with fail
          refine (fgreatest_any _ p (T : Int) TB _ hV ⟨hl8p, HL3.out.2.1⟩ HTI.out HTB.out).mono ?_
          rintro e w20 ⟨rfl, b20⟩
          replace Bd := Bd.below b20
          replace kds := kds.below b20
          replace kdd := kdd.below b20
          replace kdz := kdz.below b20
          replace kd := kd.below b20
          replace hV := hV.below b20
          replace hU := hU.below b20
          replace hS := hS.below b20
          replace hX := hX.below b20
          replace bb := bb.trans (b20.mono bb.size)
          have hsz20 := bb.size
          go_wp2
          go_loopw [12, 13] (fun v12 v13 wr => ∃ j i : Nat, j ≤ p.length ∧ Hid (i = bestq p j) ∧ Below w20.heap.size w20 wr ∧ v12 = .int .i64 (i : Int) ∧ v13 = .int .i64 (j : Int)) (fun _ v13 _ => p.length - (RowKit.intOf v13).toNat)
          case atStart => exact ⟨0, 0, by omega, rfl, Below.refl _ _, rfl, rfl⟩
          case round =>
            obtain ⟨j, i, hj, HI, hby, rfl, rfl⟩ := hrel
            replace Bd := Bd.below hby
            replace kds := kds.below hby
            replace kdd := kdd.below hby
            replace kdz := kdz.below hby
            replace kd := kd.below hby
            replace hV := hV.below hby
            replace hU := hU.below hby
            replace hS := hS.below hby
            replace hX := hX.below hby
            replace bb := bb.trans (hby.mono bb.size)
            have hsz21 := bb.size
            have hszr2 := bb.size
            by_cases hlt2 : j < p.length
            · have hilt : i < p.length := by have := HI.out; rcases bestq_lt p j with h | h <;> omega
              obtain ⟨x, hx⟩ : ∃ x, p[j]? = some x := ⟨_, List.getElem?_eq_getElem hlt2⟩
              obtain ⟨y, hy⟩ : ∃ y, p[i]? = some y := ⟨_, List.getElem?_eq_getElem hilt⟩
              have lx : lenQ x 1 := HP1.out x (List.mem_of_getElem? hx)
              have ly : lenQ y 1 := HP1.out y (List.mem_of_getElem? hy)
              have HXJ := Lib.hid hx
              have HYI := Lib.hid hy
              clear hx hy
              obtain ⟨gU_, oU_, cU_, eU_, _, _, hmU_⟩ := hU.place (List.length_pos_iff.1 (by omega))
              injection eU_ with eU1 eU2 eU3
              subst eU1
              subst eU3
              obtain ⟨ue5, te5, hlte5, ze50, ze51, ze52, ze5s, ze5d⟩ := hU.at2 HXJ.out
              obtain ⟨Ae5, ce5, rfl, _⟩ := id ze5s
              obtain ⟨De5, ee5, rfl, _⟩ := id ze5d
              have ze5 : IsP wr (.agg #[.bool (ngB (x).num), .slice Ae5 (digs 10000 (x).num.natAbs).length ce5, .slice De5 (digs 10000 (x).den).length ee5]) (x) := ⟨_, _, rfl, ze5s, ze5d⟩
              obtain ⟨ue6, te6, hlte6, ze60, ze61, ze62, ze6s, ze6d⟩ := hU.at2 HYI.out
              obtain ⟨Ae6, ce6, rfl, _⟩ := id ze6s
              obtain ⟨De6, ee6, rfl, _⟩ := id ze6d
              have ze6 : IsP wr (.agg #[.bool (ngB (y).num), .slice Ae6 (digs 10000 (y).num.natAbs).length ce6, .slice De6 (digs 10000 (y).den).length ee6]) (y) := ⟨_, _, rfl, ze6s, ze6d⟩
              by_cases c2 : y < x
              · have o2 : 0 < ordq x y := ordq_pos.2 c2
                have HI2 : Hid (j = bestq p (j + 1)) := by have e := HI.out; have hy := HYI.out; rw [e] at hy; show _ = _; rw [bestq_yes HXJ.out hy c2]
                clear c2
                go_upto_region 12 with (fail)
                refine flow 10 [Pd.eq (.slice (some ⟨gU_, oU_, none⟩) p.length cU), Pd.eq (.int .i64 (j : Int)), Pd.eq (.pointer (some ⟨gU_, oU_ + j * 3, none⟩)), Pd.eq (.agg #[.bool (ngB (x).num), .slice Ae5 (digs 10000 (x).num.natAbs).length ce5, .slice De5 (digs 10000 (x).den).length ee5]), Pd.eq (.slice (some ⟨gU_, oU_, none⟩) p.length cU), Pd.eq (.int .i64 (i : Int)), Pd.eq (.pointer (some ⟨gU_, oU_ + i * 3, none⟩)), Pd.eq (.agg #[.bool (ngB (y).num), .slice Ae6 (digs 10000 (y).num.natAbs).length ce6, .slice De6 (digs 10000 (y).den).length ee6]), Pd.eq (.int .i64 (ordq (x) (y))), Pd.eq (.bool (decide (0 < (ordq (x) (y)))))] (by kernel_rfl) (by kernel_rfl) ?ob23 ?done23
                case ob23 =>
                  refine And.intro (ob_move rfl (wt_none rfl) (ev_far rfl rfl) (fun _ _ h => h)) ?_
                  refine And.intro (ob_move rfl (wt_none rfl) (ev_far rfl rfl) (fun _ _ h => h)) ?_
                  refine And.intro (ob_indexAddr rfl (wt_none rfl) (ev_dep (j := 0) (by kernel_rfl) rfl rfl) (ev_dep (j := 1) (by kernel_rfl) rfl rfl) (fun _ _ _ hx hy => ⟨_, by rw [hx, hy]; exact index3 (k := j) Tryz.underlying29 (by kernel_rfl) hlte5 _, rfl⟩)) ?_
                  refine And.intro (ob_load rfl (wt_none rfl) (ev_dep (j := 2) (by kernel_rfl) rfl rfl) (fun w2 hb => load3 Tryz.underlying45 rfl (by kernel_rfl) ((hb.cell (World.block_lt_of_cell? wr _ ze50)).trans ze50) ((hb.cell (World.block_lt_of_cell? wr _ ze51)).trans ze51) ((hb.cell (World.block_lt_of_cell? wr _ ze52)).trans ze52)) (fun _ _ => rfl)) ?_
                  refine And.intro (ob_move rfl (wt_none rfl) (ev_far rfl rfl) (fun _ _ h => h)) ?_
                  refine And.intro (ob_move rfl (wt_none rfl) (ev_far rfl rfl) (fun _ _ h => h)) ?_
                  refine And.intro (ob_indexAddr rfl (wt_none rfl) (ev_dep (j := 4) (by kernel_rfl) rfl rfl) (ev_dep (j := 5) (by kernel_rfl) rfl rfl) (fun _ _ _ hx hy => ⟨_, by rw [hx, hy]; exact index3 (k := i) Tryz.underlying29 (by kernel_rfl) hlte6 _, rfl⟩)) ?_
                  refine And.intro (ob_load rfl (wt_none rfl) (ev_dep (j := 6) (by kernel_rfl) rfl rfl) (fun w2 hb => load3 Tryz.underlying45 rfl (by kernel_rfl) ((hb.cell (World.block_lt_of_cell? wr _ ze60)).trans ze60) ((hb.cell (World.block_lt_of_cell? wr _ ze61)).trans ze61) ((hb.cell (World.block_lt_of_cell? wr _ ze62)).trans ze62)) (fun _ _ => rfl)) ?_
                  refine And.intro (ob_call2 rfl Tryz.func19 (by kernel_rfl) (wt_none rfl) (ev_dep (j := 3) (by kernel_rfl) rfl rfl) (ev_dep (j := 7) (by kernel_rfl) rfl rfl) (fun w2 u0 u1 hb h0 h1 => by obtain rfl := h0; obtain rfl := h1; exact (qcmp_any _ (x) _ (y) _ _ (ze5.drew.below hb) (ze6.drew.below hb) (lx.mono (by decide)) (ly.mono (by decide)) rfl).mono fun e w3 h => RetV.pd h)) ?_
                  refine And.intro (ob_bin rfl (wt_none rfl) (ev_dep (j := 8) (by kernel_rfl) rfl rfl) (ev_const _) (fun _ _ _ hx hy => ⟨.bool (decide (0 < (ordq (x) (y)))), by rw [hx, hy]; exact bin_gtr_int _ _ _ _ _, rfl⟩)) ?_
                  trivial
                case done23 =>
                  refine fun w22 hb22 v0 h0 v1 h1 v2 h2 v3 h3 v4 h4 v5 h5 v6 h6 v7 h7 v8 h8 v9 h9 b hbf => ?_
                  obtain rfl := h0; obtain rfl := h1; obtain rfl := h2; obtain rfl := h3; obtain rfl := h4; obtain rfl := h5; obtain rfl := h6; obtain rfl := h7; obtain rfl := h8; obtain rfl := h9
                  simp only [Act.put, List.setIfInBounds_toArray, List.set_cons_zero, List.set_cons_succ] at hbf
                  subst hbf
                  replace Bd := Bd.below hb22
                  replace kds := kds.below hb22
                  replace kdd := kdd.below hb22
                  replace kdz := kdz.below hb22
                  replace kd := kd.below hb22
                  replace hV := hV.below hb22
                  replace hU := hU.below hb22
                  replace hS := hS.below hb22
                  replace hX := hX.below hb22
                  replace bb := bb.trans (hb22.mono bb.size)
                  have hsz22 := bb.size
                  replace hby := hby.trans (hb22.mono hby.size)
                  refine any_done (by kernel_rfl) ?_
                  go_wp2
                  go_roundw
                  case rel => exact ⟨j + 1, j, by omega, HI2, hby, rfl, by go_num⟩
                  case measure => simp [RowKit.intOf]; omega
              · have o2 : ¬ 0 < ordq x y := fun h => c2 (ordq_pos.1 h)
                have HI2 : Hid (i = bestq p (j + 1)) := by have e := HI.out; have hy := HYI.out; rw [e] at hy; show _ = _; rw [bestq_no HXJ.out hy c2]; exact e
                clear c2
                go_upto_region 12 with (fail)
                refine flow 10 [Pd.eq (.slice (some ⟨gU_, oU_, none⟩) p.length cU), Pd.eq (.int .i64 (j : Int)), Pd.eq (.pointer (some ⟨gU_, oU_ + j * 3, none⟩)), Pd.eq (.agg #[.bool (ngB (x).num), .slice Ae5 (digs 10000 (x).num.natAbs).length ce5, .slice De5 (digs 10000 (x).den).length ee5]), Pd.eq (.slice (some ⟨gU_, oU_, none⟩) p.length cU), Pd.eq (.int .i64 (i : Int)), Pd.eq (.pointer (some ⟨gU_, oU_ + i * 3, none⟩)), Pd.eq (.agg #[.bool (ngB (y).num), .slice Ae6 (digs 10000 (y).num.natAbs).length ce6, .slice De6 (digs 10000 (y).den).length ee6]), Pd.eq (.int .i64 (ordq (x) (y))), Pd.eq (.bool (decide (0 < (ordq (x) (y)))))] (by kernel_rfl) (by kernel_rfl) ?ob24 ?done24
                case ob24 =>
                  refine And.intro (ob_move rfl (wt_none rfl) (ev_far rfl rfl) (fun _ _ h => h)) ?_
                  refine And.intro (ob_move rfl (wt_none rfl) (ev_far rfl rfl) (fun _ _ h => h)) ?_
                  refine And.intro (ob_indexAddr rfl (wt_none rfl) (ev_dep (j := 0) (by kernel_rfl) rfl rfl) (ev_dep (j := 1) (by kernel_rfl) rfl rfl) (fun _ _ _ hx hy => ⟨_, by rw [hx, hy]; exact index3 (k := j) Tryz.underlying29 (by kernel_rfl) hlte5 _, rfl⟩)) ?_
                  refine And.intro (ob_load rfl (wt_none rfl) (ev_dep (j := 2) (by kernel_rfl) rfl rfl) (fun w2 hb => load3 Tryz.underlying45 rfl (by kernel_rfl) ((hb.cell (World.block_lt_of_cell? wr _ ze50)).trans ze50) ((hb.cell (World.block_lt_of_cell? wr _ ze51)).trans ze51) ((hb.cell (World.block_lt_of_cell? wr _ ze52)).trans ze52)) (fun _ _ => rfl)) ?_
                  refine And.intro (ob_move rfl (wt_none rfl) (ev_far rfl rfl) (fun _ _ h => h)) ?_
                  refine And.intro (ob_move rfl (wt_none rfl) (ev_far rfl rfl) (fun _ _ h => h)) ?_
                  refine And.intro (ob_indexAddr rfl (wt_none rfl) (ev_dep (j := 4) (by kernel_rfl) rfl rfl) (ev_dep (j := 5) (by kernel_rfl) rfl rfl) (fun _ _ _ hx hy => ⟨_, by rw [hx, hy]; exact index3 (k := i) Tryz.underlying29 (by kernel_rfl) hlte6 _, rfl⟩)) ?_
                  refine And.intro (ob_load rfl (wt_none rfl) (ev_dep (j := 6) (by kernel_rfl) rfl rfl) (fun w2 hb => load3 Tryz.underlying45 rfl (by kernel_rfl) ((hb.cell (World.block_lt_of_cell? wr _ ze60)).trans ze60) ((hb.cell (World.block_lt_of_cell? wr _ ze61)).trans ze61) ((hb.cell (World.block_lt_of_cell? wr _ ze62)).trans ze62)) (fun _ _ => rfl)) ?_
                  refine And.intro (ob_call2 rfl Tryz.func19 (by kernel_rfl) (wt_none rfl) (ev_dep (j := 3) (by kernel_rfl) rfl rfl) (ev_dep (j := 7) (by kernel_rfl) rfl rfl) (fun w2 u0 u1 hb h0 h1 => by obtain rfl := h0; obtain rfl := h1; exact (qcmp_any _ (x) _ (y) _ _ (ze5.drew.below hb) (ze6.drew.below hb) (lx.mono (by decide)) (ly.mono (by decide)) rfl).mono fun e w3 h => RetV.pd h)) ?_
                  refine And.intro (ob_bin rfl (wt_none rfl) (ev_dep (j := 8) (by kernel_rfl) rfl rfl) (ev_const _) (fun _ _ _ hx hy => ⟨.bool (decide (0 < (ordq (x) (y)))), by rw [hx, hy]; exact bin_gtr_int _ _ _ _ _, rfl⟩)) ?_
                  trivial
                case done24 =>
                  refine fun w22 hb22 v0 h0 v1 h1 v2 h2 v3 h3 v4 h4 v5 h5 v6 h6 v7 h7 v8 h8 v9 h9 b hbf => ?_
                  obtain rfl := h0; obtain rfl := h1; obtain rfl := h2; obtain rfl := h3; obtain rfl := h4; obtain rfl := h5; obtain rfl := h6; obtain rfl := h7; obtain rfl := h8; obtain rfl := h9
                  simp only [Act.put, List.setIfInBounds_toArray, List.set_cons_zero, List.set_cons_succ] at hbf
                  subst hbf
                  replace Bd := Bd.below hb22
                  replace kds := kds.below hb22
                  replace kdd := kdd.below hb22
                  replace kdz := kdz.below hb22
                  replace kd := kd.below hb22
                  replace hV := hV.below hb22
                  replace hU := hU.below hb22
                  replace hS := hS.below hb22
                  replace hX := hX.below hb22
                  replace bb := bb.trans (hb22.mono bb.size)
                  have hsz22 := bb.size
                  replace hby := hby.trans (hb22.mono hby.size)
                  refine any_done (by kernel_rfl) ?_
                  go_wp2
                  go_roundw
                  case rel => exact ⟨j + 1, i, by omega, HI2, hby, rfl, by go_num⟩
                  case measure => simp [RowKit.intOf]; omega
            · obtain rfl : i = T := by rw [HI.out, HT.out, topq, show j = p.length by omega]
              obtain ⟨SB, hSB⟩ : ∃ SB, SB = decide (p = q) := ⟨_, rfl⟩
              obtain ⟨IT, hIT⟩ : ∃ IT : Int, IT = if p = q then 1 else 0 := ⟨_, rfl⟩
              have HSB := Lib.hid hSB
              have HIT := Lib.hid hIT
              have HIS : Hid ((IT == 1) = SB) := by
                show _ = _
                rw [hIT, hSB]
                by_cases c : p = q
                · rw [if_pos c, decide_eq_true c]; rfl
                · rw [if_neg c, decide_eq_false c]; rfl
              have HLL : Hid (p.length ≤ 200 ∧ ∀ x ∈ p, lenQ x 3) := ⟨by omega, HL3.out.2.1⟩
              have HLS : Hid (p.length ≤ 8 ∧ (∀ x ∈ p, lenQ x 3) ∧ ∀ x ∈ p, lenQ x 3) := ⟨by omega, HL3.out.2.1, HL3.out.2.1⟩
              have HQL : Hid (∀ x ∈ q, lenQ x 30000) := fun x hx => (HQ1.out x hx).mono (by decide)
              clear hSB hIT HI HT
              go_upto_region 14 with (fail)
              refine flowp 10 [Pd.eq (.int .i64 (i : Int)), Pd.eq (.int .i64 (i : Int)), Pd.eq (.bool false), Pd.eq (.bool false), Pd.eq (.bool TB), Pd.eq (.slice AU p.length cU), Pd.eq (.int .i64 ((p.length : Nat) : Int)), Pd.eq (.bool TB), Pd.eq (.bool false), Pd.eq (.bool false)] (by kernel_rfl) ?ob25 ?done25
              case ob25 =>
                refine And.intro (ob_move rfl (wt_none rfl) (ev_far rfl rfl) (fun _ _ h => h)) ?_
                refine And.intro (ob_move rfl (wt_none rfl) (ev_far rfl rfl) (fun _ _ h => h)) ?_
                refine And.intro (ob_bin rfl (wt_none rfl) (ev_dep (j := 0) (by kernel_rfl) rfl rfl) (ev_dep (j := 1) (by kernel_rfl) rfl rfl) (fun _ _ _ hx hy => ⟨.bool false, by rw [hx, hy, bin_neq_int, bne_self_eq_false], rfl⟩)) ?_
                refine And.intro (ob_move rfl (wt_none rfl) (ev_dep (j := 2) (by kernel_rfl) rfl rfl) (fun _ _ h => h)) ?_
                refine And.intro (ob_move rfl (wt_dep (c := false) (b := false) (g := 3) rfl (by kernel_rfl) rfl rfl rfl (by exact fun _ _ h => h)) (ev_far rfl rfl) (fun _ _ h => h)) ?_
                refine And.intro (ob_move rfl (wt_dep (c := false) (b := false) (g := 3) rfl (by kernel_rfl) rfl rfl rfl (by exact fun _ _ h => h)) (ev_far rfl rfl) (fun _ _ h => h)) ?_
                refine And.intro (ob_len rfl (wt_dep (c := false) (b := false) (g := 3) rfl (by kernel_rfl) rfl rfl rfl (by exact fun _ _ h => h)) (ev_dep (j := 5) (by kernel_rfl) rfl rfl) (fun _ _ hx => ⟨_, by rw [hx]; exact len_slice Tryz.underlying29 _ _ _ _, rfl⟩)) ?_
                refine And.intro (ob_bin rfl (wt_dep (c := false) (b := false) (g := 3) rfl (by kernel_rfl) rfl rfl rfl (by exact fun _ _ h => h)) (ev_dep (j := 6) (by kernel_rfl) rfl rfl) (ev_const _) (fun _ _ _ hx hy => ⟨.bool TB, by rw [hx, hy, bin_gtr_int, HTB2.out], rfl⟩)) ?_
                refine And.intro (ob_bin rfl (wt_dep (c := false) (b := false) (g := 3) rfl (by kernel_rfl) rfl rfl rfl (by exact fun _ _ h => h)) (ev_dep (j := 4) (by kernel_rfl) rfl rfl) (ev_dep (j := 7) (by kernel_rfl) rfl rfl) (fun _ _ _ hx hy => ⟨.bool false, by rw [hx, hy, bin_neq_bool _ _ _ _ Tryz.underlying4, beq_self_eq_true, Bool.not_true], rfl⟩)) ?_
                refine And.intro (ob_pick (b := false) rfl (wt_none rfl) (ev_dep (j := 3) (by kernel_rfl) rfl rfl) (ev_dep (j := 8) (by kernel_rfl) rfl rfl) (fun _ _ h => h)) ?_
                trivial
              case done25 =>
                refine fun w22 hb22 v0 h0 v1 h1 v2 h2 v3 h3 v4 h4 v5 h5 v6 h6 v7 h7 v8 h8 v9 h9 b hbf => ?_
                obtain rfl := h0; obtain rfl := h1; obtain rfl := h2; obtain rfl := h3; obtain rfl := h4; obtain rfl := h5; obtain rfl := h6; obtain rfl := h7; obtain rfl := h8; obtain rfl := h9
                simp only [Act.put, List.setIfInBounds_toArray, List.set_cons_zero, List.set_cons_succ] at hbf
                subst hbf
                replace Bd := Bd.below hb22
                replace kds := kds.below hb22
                replace kdd := kdd.below hb22
                replace kdz := kdz.below hb22
                replace kd := kd.below hb22
                replace hV := hV.below hb22
                replace hU := hU.below hb22
                replace hS := hS.below hb22
                replace hX := hX.below hb22
                replace bb := bb.trans (hb22.mono bb.size)
                have hsz22 := bb.size
                replace hby := hby.trans (hb22.mono hby.size)
                refine ops_done ?_
                go_upto_region 16 with (fail)
                refine flowp 20 [Pd.eq (.slice AV p.length cV), Pd.eq (.int .i64 (k : Int)), Pd.eq (.int .i64 (k : Int)), Pd.eq (.bool false), Pd.eq (.bool false), Pd.eq (.slice AV p.length cV), Pd.eq (.slice AS q.length cS), Pd.eq (.bool SB), Pd.eq (.slice AV p.length cV), Pd.eq (.slice AX q.length cX), Pd.eq (.int .i64 IT), Pd.eq (.bool SB), Pd.eq (.bool false), Pd.eq (.bool false), Pd.eq (.bool false), Pd.eq (.slice AV p.length cV), Pd.eq (.slice AV p.length cV), Pd.eq (.bool true), Pd.eq (.bool false), Pd.eq (.bool false)] (by kernel_rfl) ?ob26 ?done26
                case ob26 =>
                  refine And.intro (ob_move rfl (wt_none rfl) (ev_far rfl rfl) (fun _ _ h => h)) ?_
                  refine And.intro (ob_call1 rfl Tryz.func20 (by kernel_rfl) (wt_none rfl) (ev_dep (j := 0) (by kernel_rfl) rfl rfl) (fun w2 u0 hb h0 => by obtain rfl := h0; exact (flead_any _ p (k : Int) _ (hV.below hb) HLL.out HKI.out).mono fun e w3 h => RetV.pd h)) ?_
                  refine And.intro (ob_move rfl (wt_none rfl) (ev_far rfl rfl) (fun _ _ h => h)) ?_
                  refine And.intro (ob_bin rfl (wt_none rfl) (ev_dep (j := 1) (by kernel_rfl) rfl rfl) (ev_dep (j := 2) (by kernel_rfl) rfl rfl) (fun _ _ _ hx hy => ⟨.bool false, by rw [hx, hy, bin_neq_int, bne_self_eq_false], rfl⟩)) ?_
                  refine And.intro (ob_move rfl (wt_none rfl) (ev_dep (j := 3) (by kernel_rfl) rfl rfl) (fun _ _ h => h)) ?_
                  refine And.intro (ob_move rfl (wt_dep (c := false) (b := false) (g := 4) rfl (by kernel_rfl) rfl rfl rfl (by exact fun _ _ h => h)) (ev_far rfl rfl) (fun _ _ h => h)) ?_
                  refine And.intro (ob_move rfl (wt_dep (c := false) (b := false) (g := 4) rfl (by kernel_rfl) rfl rfl rfl (by exact fun _ _ h => h)) (ev_far rfl rfl) (fun _ _ h => h)) ?_
                  refine And.intro (ob_call2 rfl Tryz.func21 (by kernel_rfl) (wt_dep (c := false) (b := false) (g := 4) rfl (by kernel_rfl) rfl rfl rfl (by exact fun _ _ h => h)) (ev_dep (j := 5) (by kernel_rfl) rfl rfl) (ev_dep (j := 6) (by kernel_rfl) rfl rfl) (fun w2 u0 u1 hb h0 h1 => by obtain rfl := h0; obtain rfl := h1; exact (fvsame_any _ _ p q SB _ (hV.below hb) (hS.below hb) HL3.out HSB.out).mono fun e w3 h => RetV.pd h)) ?_
                  refine And.intro (ob_move rfl (wt_dep (c := false) (b := false) (g := 4) rfl (by kernel_rfl) rfl rfl rfl (by exact fun _ _ h => h)) (ev_far rfl rfl) (fun _ _ h => h)) ?_
                  refine And.intro (ob_move rfl (wt_dep (c := false) (b := false) (g := 4) rfl (by kernel_rfl) rfl rfl rfl (by exact fun _ _ h => h)) (ev_far rfl rfl) (fun _ _ h => h)) ?_
                  refine And.intro (ob_call2 rfl Tryz.func9 (by kernel_rfl) (wt_dep (c := false) (b := false) (g := 4) rfl (by kernel_rfl) rfl rfl rfl (by exact fun _ _ h => h)) (ev_dep (j := 8) (by kernel_rfl) rfl rfl) (ev_dep (j := 9) (by kernel_rfl) rfl rfl) (fun w2 u0 u1 hb h0 h1 => by obtain rfl := h0; obtain rfl := h1; exact (is_any _ _ p q IT _ (hV.below hb) (hX.below hb) HQL.out HIT.out).mono fun e w3 h => RetV.pd h)) ?_
                  refine And.intro (ob_bin rfl (wt_dep (c := false) (b := false) (g := 4) rfl (by kernel_rfl) rfl rfl rfl (by exact fun _ _ h => h)) (ev_dep (j := 10) (by kernel_rfl) rfl rfl) (ev_const _) (fun _ _ _ hx hy => ⟨.bool SB, by rw [hx, hy, bin_eql_int, HIS.out], rfl⟩)) ?_
                  refine And.intro (ob_bin rfl (wt_dep (c := false) (b := false) (g := 4) rfl (by kernel_rfl) rfl rfl rfl (by exact fun _ _ h => h)) (ev_dep (j := 7) (by kernel_rfl) rfl rfl) (ev_dep (j := 11) (by kernel_rfl) rfl rfl) (fun _ _ _ hx hy => ⟨.bool false, by rw [hx, hy, bin_neq_bool _ _ _ _ Tryz.underlying4, beq_self_eq_true, Bool.not_true], rfl⟩)) ?_
                  refine And.intro (ob_pick (b := false) rfl (wt_none rfl) (ev_dep (j := 4) (by kernel_rfl) rfl rfl) (ev_dep (j := 12) (by kernel_rfl) rfl rfl) (fun _ _ h => h)) ?_
                  refine And.intro (ob_move rfl (wt_none rfl) (ev_dep (j := 13) (by kernel_rfl) rfl rfl) (fun _ _ h => h)) ?_
                  refine And.intro (ob_move rfl (wt_dep (c := false) (b := false) (g := 14) rfl (by kernel_rfl) rfl rfl rfl (by exact fun _ _ h => h)) (ev_far rfl rfl) (fun _ _ h => h)) ?_
                  refine And.intro (ob_move rfl (wt_dep (c := false) (b := false) (g := 14) rfl (by kernel_rfl) rfl rfl rfl (by exact fun _ _ h => h)) (ev_far rfl rfl) (fun _ _ h => h)) ?_
                  refine And.intro (ob_call2 rfl Tryz.func21 (by kernel_rfl) (wt_dep (c := false) (b := false) (g := 14) rfl (by kernel_rfl) rfl rfl rfl (by exact fun _ _ h => h)) (ev_dep (j := 15) (by kernel_rfl) rfl rfl) (ev_dep (j := 16) (by kernel_rfl) rfl rfl) (fun w2 u0 u1 hb h0 h1 => by obtain rfl := h0; obtain rfl := h1; exact (fvsame_any _ _ p p true _ (hV.below hb) (hV.below hb) HLS.out (decide_eq_true rfl).symm).mono fun e w3 h => RetV.pd h)) ?_
                  refine And.intro (ob_un rfl (wt_dep (c := false) (b := false) (g := 14) rfl (by kernel_rfl) rfl rfl rfl (by exact fun _ _ h => h)) (ev_dep (j := 17) (by kernel_rfl) rfl rfl) (fun _ => un_not _ _) (fun _ => rfl)) ?_
                  refine And.intro (ob_pick (b := false) rfl (wt_none rfl) (ev_dep (j := 14) (by kernel_rfl) rfl rfl) (ev_dep (j := 18) (by kernel_rfl) rfl rfl) (fun _ _ h => h)) ?_
                  trivial
                case done26 =>
                  refine fun w23 hb23 v0 h0 v1 h1 v2 h2 v3 h3 v4 h4 v5 h5 v6 h6 v7 h7 v8 h8 v9 h9 v10 h10 v11 h11 v12 h12 v13 h13 v14 h14 v15 h15 v16 h16 v17 h17 v18 h18 v19 h19 b hbf => ?_
                  obtain rfl := h0; obtain rfl := h1; obtain rfl := h2; obtain rfl := h3; obtain rfl := h4; obtain rfl := h5; obtain rfl := h6; obtain rfl := h7; obtain rfl := h8; obtain rfl := h9; obtain rfl := h10; obtain rfl := h11; obtain rfl := h12; obtain rfl := h13; obtain rfl := h14; obtain rfl := h15; obtain rfl := h16; obtain rfl := h17; obtain rfl := h18; obtain rfl := h19
                  simp only [Act.put, List.setIfInBounds_toArray, List.set_cons_zero, List.set_cons_succ] at hbf
                  subst hbf
                  replace Bd := Bd.below hb23
                  replace kds := kds.below hb23
                  replace kdd := kdd.below hb23
                  replace kdz := kdz.below hb23
                  replace kd := kd.below hb23
                  replace hV := hV.below hb23
                  replace hU := hU.below hb23
                  replace hS := hS.below hb23
                  replace hX := hX.below hb23
                  replace bb := bb.trans (hb23.mono bb.size)
                  have hsz23 := bb.size
                  replace hby := hby.trans (hb23.mono hby.size)
                  refine ops_done ?_
                  have hE := HE.out
                  have heb : (((p.length : Nat) : Int) == ((q.length : Nat) : Int)) = true := by rw [beq_iff_eq]; omega
                  clear hE
                  go_upto_region 20 with (fail)
                  refine flow 14 [Pd.eq (.int .i64 0), Pd.eq (.bool true), Pd.eq (.bool true), Pd.eq (.agg #[.bool (ngB (D).num), .slice Ad (digs 4294967296 (D).num.natAbs).length cd, .slice Dd (digs 4294967296 (D).den).length ed]), Pd.eq (.slice AU p.length cU), Pd.eq (.slice AX q.length cX), pp (D), pqn (D), Pd.eq (.bool true), Pd.eq (.bool true), Pd.eq (.bool true), Pd.eq (.bool true), Pd.eq (.bool true), Pd.eq (.bool true)] (by kernel_rfl) (by kernel_rfl) ?ob27 ?done27
                  case ob27 =>
                    refine And.intro (ob_move rfl (wt_none rfl) (ev_far rfl rfl) (fun _ _ h => h)) ?_
                    refine And.intro (ob_bin rfl (wt_none rfl) (ev_dep (j := 0) (by kernel_rfl) rfl rfl) (ev_const _) (fun _ _ _ hx hy => ⟨.bool true, by rw [hx, hy, bin_eql_int]; rfl, rfl⟩)) ?_
                    refine And.intro (ob_move rfl (wt_none rfl) (ev_dep (j := 1) (by kernel_rfl) rfl rfl) (fun _ _ h => h)) ?_
                    refine And.intro (ob_load rfl (wt_dep (c := true) (b := true) (g := 2) rfl (by kernel_rfl) rfl rfl rfl (by exact fun _ _ h => h)) (ev_far rfl rfl) (fun w2 hb => run_loadAll Tryz.underlying28 rfl (by kernel_rfl) (Bd.drew.below hb)) (fun _ _ => rfl)) ?_
                    refine And.intro (ob_move rfl (wt_dep (c := true) (b := true) (g := 2) rfl (by kernel_rfl) rfl rfl rfl (by exact fun _ _ h => h)) (ev_far rfl rfl) (fun _ _ h => h)) ?_
                    refine And.intro (ob_move rfl (wt_dep (c := true) (b := true) (g := 2) rfl (by kernel_rfl) rfl rfl rfl (by exact fun _ _ h => h)) (ev_far rfl rfl) (fun _ _ h => h)) ?_
                    refine And.intro (ob_call2 rfl Tryz.func24 (by kernel_rfl) (wt_dep (c := true) (b := true) (g := 2) rfl (by kernel_rfl) rfl rfl rfl (by exact fun _ _ h => h)) (ev_dep (j := 4) (by kernel_rfl) rfl rfl) (ev_dep (j := 5) (by kernel_rfl) rfl rfl) (fun w2 u0 u1 hb h0 h1 => by obtain rfl := h0; obtain rfl := h1; exact (HD.out ▸ rdot_any _ _ p q 1 _ (hU.drew.below hb) (hX.drew.below hb) HE.out ⟨HP1.out, HQ1.out, by omega⟩).mono fun e w3 h => RetP.pd h)) ?_
                    refine And.intro (ob_call1 rfl Tryz.func23 (by kernel_rfl) (wt_dep (c := true) (b := true) (g := 2) rfl (by kernel_rfl) rfl rfl rfl (by exact fun _ _ h => h)) (ev_dep (j := 6) (by kernel_rfl) rfl rfl) (fun w2 u0 hb h0 => by exact (qback_any _ _ _ h0 (lD.mono (by decide))).mono fun e w3 h => RetQn.pd (RetQ.n h))) ?_
                    refine And.intro (ob_call2 rfl Tryz.func22 (by kernel_rfl) (wt_dep (c := true) (b := true) (g := 2) rfl (by kernel_rfl) rfl rfl rfl (by exact fun _ _ h => h)) (ev_dep (j := 3) (by kernel_rfl) rfl rfl) (ev_dep (j := 7) (by kernel_rfl) rfl rfl) (fun w2 u0 u1 hb h0 h1 => by obtain rfl := h0; exact (qsame_eq _ _ (D) (D) _ (kd.drew.below hb) h1 rfl).mono fun e w3 h => RetV.pd h)) ?_
                    refine And.intro (ob_pick (b := true) rfl (wt_none rfl) (ev_dep (j := 2) (by kernel_rfl) rfl rfl) (ev_dep (j := 8) (by kernel_rfl) rfl rfl) (fun _ _ h => h)) ?_
                    refine And.intro (ob_move rfl (wt_none rfl) (ev_dep (j := 9) (by kernel_rfl) rfl rfl) (fun _ _ h => h)) ?_
                    refine And.intro (ob_call0 rfl Tryz.func13 (by kernel_rfl) (wt_dep (c := true) (b := true) (g := 10) rfl (by kernel_rfl) rfl rfl rfl (by exact fun _ _ h => h)) (fun w2 hb => (works11_any _).mono fun e w3 h => RetV.pd h)) ?_
                    refine And.intro (ob_pick (b := true) rfl (wt_none rfl) (ev_dep (j := 10) (by kernel_rfl) rfl rfl) (ev_dep (j := 11) (by kernel_rfl) rfl rfl) (fun _ _ h => h)) ?_
                    refine And.intro (ob_assign rfl (wt_none rfl) (ev_dep (j := 12) (by kernel_rfl) rfl rfl) (fun _ _ h => h)) ?_
                    trivial
                  case done27 =>
                    refine fun w24 hb24 v0 h0 v1 h1 v2 h2 v3 h3 v4 h4 v5 h5 v6 h6 v7 h7 v8 h8 v9 h9 v10 h10 v11 h11 v12 h12 v13 h13 b hbf => ?_
                    obtain rfl := h0; obtain rfl := h1; obtain rfl := h2; obtain rfl := h3; obtain rfl := h4; obtain rfl := h5; obtain rfl := h8; obtain rfl := h9; obtain rfl := h10; obtain rfl := h11; obtain rfl := h12; obtain rfl := h13
                    have q6 := h6
                    have q7 := h7
                    simp only [Act.put, List.setIfInBounds_toArray, List.set_cons_zero, List.set_cons_succ] at hbf
                    subst hbf
                    replace Bd := Bd.below hb24
                    replace kds := kds.below hb24
                    replace kdd := kdd.below hb24
                    replace kdz := kdz.below hb24
                    replace kd := kd.below hb24
                    replace hV := hV.below hb24
                    replace hU := hU.below hb24
                    replace hS := hS.below hb24
                    replace hX := hX.below hb24
                    replace bb := bb.trans (hb24.mono bb.size)
                    have hsz24 := bb.size
                    replace hby := hby.trans (hb24.mono hby.size)
                    refine any_done (by kernel_rfl) ?_
                    go_wp2
                    go_ret
                    exact ⟨rfl, bb⟩
  · have HE := Lib.hid he
    clear he
    go_upto_region 3 with (fail)
    refine flowp 7 [Pd.eq (.slice AV p.length cV), Pd.eq (.slice AS q.length cS), Pd.eq (.tuple #[.agg #[.bool false, .slice none 0 0, .slice none 0 0], .int .i64 8]), Pd.eq (.tuple #[.agg #[.bool false, .slice none 0 0, .slice none 0 0], .int .i64 8]), Pd.eq (.agg #[.bool false, .slice none 0 0, .slice none 0 0]), Pd.eq (.int .i64 8), pn 28 #[.bool false, .slice none 0 0, .slice none 0 0] w2.heap.size] (by kernel_rfl) ?ob15 ?done15
    case ob15 =>
      refine And.intro (ob_move rfl (wt_none rfl) (ev_far rfl rfl) (fun _ _ h => h)) ?_
      refine And.intro (ob_move rfl (wt_none rfl) (ev_far rfl rfl) (fun _ _ h => h)) ?_
      refine And.intro (ob_call2 rfl Tryz.func16 (by kernel_rfl) (wt_none rfl) (ev_dep (j := 0) (by kernel_rfl) rfl rfl) (ev_dep (j := 1) (by kernel_rfl) rfl rfl) (fun w2 u0 u1 hb h0 h1 => by obtain rfl := h0; obtain rfl := h1; exact (fdot_no _ _ p q _ (hV.below hb) (hS.below hb) HE.out).mono fun e w3 h => RetQN.pd h)) ?_
      refine And.intro (ob_move rfl (wt_none rfl) (ev_dep (j := 2) (by kernel_rfl) rfl rfl) (fun _ _ h => h)) ?_
      refine And.intro (ob_extract rfl (wt_none rfl) (ev_dep (j := 3) (by kernel_rfl) rfl rfl) (fun w2 u hu => by obtain rfl := hu; exact ⟨_, rfl, rfl⟩)) ?_
      refine And.intro (ob_extract rfl (wt_none rfl) (ev_dep (j := 3) (by kernel_rfl) rfl rfl) (fun w2 u hu => by obtain rfl := hu; exact ⟨_, rfl, rfl⟩)) ?_
      refine And.intro (ob_alloc (z := .agg #[.bool false, .slice none 0 0, .slice none 0 0]) rfl rfl (fun _ => by kernel_rfl) (fun _ _ hB h => ⟨_, rfl, hB, h⟩)) ?_
      trivial
    case done15 =>
      refine fun w3 hb3 v0 h0 v1 h1 v2 h2 v3 h3 v4 h4 v5 h5 v6 h6 d6 b hbf => ?_
      obtain rfl := h0; obtain rfl := h1; obtain rfl := h2; obtain rfl := h3; obtain rfl := h4; obtain rfl := h5
      obtain ⟨g15_6, rfl, hg6, B6⟩ := h6
      simp only [Act.put, List.setIfInBounds_toArray, List.set_cons_zero, List.set_cons_succ] at hbf
      subst hbf
      replace hV := hV.below hb3
      replace hU := hU.below hb3
      replace hS := hS.below hb3
      replace hX := hX.below hb3
      replace bb := bb.trans (hb3.mono bb.size)
      have hsz3 := bb.size
      have hneV : (Value.slice AV p.length cV).ownBlock ≠ some g15_6 := fun e => by have := hfV _ e; omega
      have hneU : (Value.slice AU p.length cU).ownBlock ≠ some g15_6 := fun e => by have := hfU _ e; omega
      have hneS : (Value.slice AS q.length cS).ownBlock ≠ some g15_6 := fun e => by have := hfS _ e; omega
      have hneX : (Value.slice AX q.length cX).ownBlock ≠ some g15_6 := fun e => by have := hfX _ e; omega
      have BA7 := B6
      refine ops_store (i := 7) rfl rfl rfl rfl rfl rfl (cells := [.bool false, .slice none 0 0, .slice none 0 0]) rfl BA7 rfl (by kernel_rfl) (one3 rfl rfl rfl) fun w4 hg4 BN4 => ?_
      replace hV := hV.off BA7 no_ints3 hg4 hneV
      replace hU := hU.off BA7 no_ints3 hg4 hneU
      replace hS := hS.off BA7 no_ints3 hg4 hneS
      replace hX := hX.off BA7 no_ints3 hg4 hneX
      replace bb := bb.trans ((Below.refl _ _).grown hg4 bb.size (fun g hg => by injection hg with hg; omega))
      have hsz4 := bb.size
      replace BA7 : Blk w4 (g15_6) _ #[.bool false, .slice none 0 0, .slice none 0 0] := BN4
      refine ops_assign (i := 8) (.int .i64 8) rfl rfl rfl rfl rfl fun b hbf => ?_
      simp only [Act.put, List.setIfInBounds_toArray, List.set_cons_zero, List.set_cons_succ] at hbf
      subst hbf
      refine ops_done ?_
      go_wp2
      go_loopw [9] (fun v9 wr => ∃ k : Nat, k ≤ p.length ∧ Hid (∀ x ∈ p.take k, x = 0) ∧ Below w4.heap.size w4 wr ∧ v9 = .int .i64 (k : Int)) (fun v9 _ => p.length - (RowKit.intOf v9).toNat)
      case atStart => exact ⟨0, by omega, (by show ∀ x ∈ _, _; intro x hx; simp at hx), Below.refl _ _, rfl⟩
      case round =>
        obtain ⟨k, hk, HA, hby, rfl⟩ := hrel
        replace BA7 := BA7.below hby
        replace hV := hV.below hby
        replace hU := hU.below hby
        replace hS := hS.below hby
        replace hX := hX.below hby
        replace bb := bb.trans (hby.mono bb.size)
        have hsz5 := bb.size
        have hszr := bb.size
        by_cases hlt : k < p.length
        · obtain ⟨x, hx⟩ : ∃ x, p[k]? = some x := ⟨_, List.getElem?_eq_getElem hlt⟩
          have HX := Lib.hid hx
          have HLT : Hid (decide ((k : Int) < (p.length : Int)) = true) := decide_eq_true (by omega)
          clear hx
          obtain ⟨gU_, oU_, cU_, eU_, _, _, hmU_⟩ := hU.place (List.length_pos_iff.1 (by omega))
          injection eU_ with eU1 eU2 eU3
          subst eU1
          subst eU3
          obtain ⟨ue1, te1, hlte1, ze10, ze11, ze12, ze1s, ze1d⟩ := hU.at2 HX.out
          obtain ⟨Ae1, ce1, rfl, _⟩ := id ze1s
          obtain ⟨De1, ee1, rfl, _⟩ := id ze1d
          have ze1 : IsP wr (.agg #[.bool (ngB (x).num), .slice Ae1 (digs 10000 (x).num.natAbs).length ce1, .slice De1 (digs 10000 (x).den).length ee1]) (x) := ⟨_, _, rfl, ze1s, ze1d⟩
          by_cases hx0 : x = 0
          · have HZ : Hid (true = decide (x = 0)) := (decide_eq_true hx0).symm
            have HA2 : Hid (∀ y ∈ p.take (k + 1), y = 0) := by
              show ∀ y ∈ _, _
              rw [take_snoc HX.out]
              intro y hy
              rcases List.mem_append.1 hy with hy | hy
              · exact HA.out y hy
              · rw [List.mem_singleton.1 hy]; exact hx0
            clear hx0
            go_upto_region 5 with (fail)
            refine flowp 11 [Pd.eq (.int .i64 (k : Int)), Pd.eq (.slice (some ⟨gU_, oU_, none⟩) p.length cU), Pd.eq (.int .i64 ((p.length : Nat) : Int)), Pd.eq (.bool true), Pd.eq (.bool true), Pd.eq (.slice (some ⟨gU_, oU_, none⟩) p.length cU), Pd.eq (.int .i64 (k : Int)), Pd.eq (.pointer (some ⟨gU_, oU_ + k * 3, none⟩)), Pd.eq (.agg #[.bool (ngB (x).num), .slice Ae1 (digs 10000 (x).num.natAbs).length ce1, .slice De1 (digs 10000 (x).den).length ee1]), Pd.eq (.bool true), Pd.eq (.bool true)] (by kernel_rfl) ?ob28 ?done28
            case ob28 =>
              refine And.intro (ob_move rfl (wt_none rfl) (ev_far rfl rfl) (fun _ _ h => h)) ?_
              refine And.intro (ob_move rfl (wt_none rfl) (ev_far rfl rfl) (fun _ _ h => h)) ?_
              refine And.intro (ob_len rfl (wt_none rfl) (ev_dep (j := 1) (by kernel_rfl) rfl rfl) (fun _ _ hx => ⟨_, by rw [hx]; exact len_slice Tryz.underlying29 _ _ _ _, rfl⟩)) ?_
              refine And.intro (ob_bin rfl (wt_none rfl) (ev_dep (j := 0) (by kernel_rfl) rfl rfl) (ev_dep (j := 2) (by kernel_rfl) rfl rfl) (fun _ _ _ hx hy => ⟨.bool true, by rw [hx, hy, bin_lss_int, HLT.out], rfl⟩)) ?_
              refine And.intro (ob_move rfl (wt_none rfl) (ev_dep (j := 3) (by kernel_rfl) rfl rfl) (fun _ _ h => h)) ?_
              refine And.intro (ob_move rfl (wt_dep (c := true) (b := true) (g := 4) rfl (by kernel_rfl) rfl rfl rfl (by exact fun _ _ h => h)) (ev_far rfl rfl) (fun _ _ h => h)) ?_
              refine And.intro (ob_move rfl (wt_dep (c := true) (b := true) (g := 4) rfl (by kernel_rfl) rfl rfl rfl (by exact fun _ _ h => h)) (ev_far rfl rfl) (fun _ _ h => h)) ?_
              refine And.intro (ob_indexAddr rfl (wt_dep (c := true) (b := true) (g := 4) rfl (by kernel_rfl) rfl rfl rfl (by exact fun _ _ h => h)) (ev_dep (j := 5) (by kernel_rfl) rfl rfl) (ev_dep (j := 6) (by kernel_rfl) rfl rfl) (fun _ _ _ hx hy => ⟨_, by rw [hx, hy]; exact index3 (k := k) Tryz.underlying29 (by kernel_rfl) hlte1 _, rfl⟩)) ?_
              refine And.intro (ob_load rfl (wt_dep (c := true) (b := true) (g := 4) rfl (by kernel_rfl) rfl rfl rfl (by exact fun _ _ h => h)) (ev_dep (j := 7) (by kernel_rfl) rfl rfl) (fun w2 hb => load3 Tryz.underlying45 rfl (by kernel_rfl) ((hb.cell (World.block_lt_of_cell? wr _ ze10)).trans ze10) ((hb.cell (World.block_lt_of_cell? wr _ ze11)).trans ze11) ((hb.cell (World.block_lt_of_cell? wr _ ze12)).trans ze12)) (fun _ _ => rfl)) ?_
              refine And.intro (ob_call1 rfl Tryz.func17 (by kernel_rfl) (wt_dep (c := true) (b := true) (g := 4) rfl (by kernel_rfl) rfl rfl rfl (by exact fun _ _ h => h)) (ev_dep (j := 8) (by kernel_rfl) rfl rfl) (fun w2 u0 hb h0 => by obtain rfl := h0; exact (qzero_any _ x true _ (ze1.below hb) HZ.out).mono fun e w3 h => RetV.pd h)) ?_
              refine And.intro (ob_pick (b := true) rfl (wt_none rfl) (ev_dep (j := 4) (by kernel_rfl) rfl rfl) (ev_dep (j := 9) (by kernel_rfl) rfl rfl) (fun _ _ h => h)) ?_
              trivial
            case done28 =>
              refine fun w6 hb6 v0 h0 v1 h1 v2 h2 v3 h3 v4 h4 v5 h5 v6 h6 v7 h7 v8 h8 v9 h9 v10 h10 b hbf => ?_
              obtain rfl := h0; obtain rfl := h1; obtain rfl := h2; obtain rfl := h3; obtain rfl := h4; obtain rfl := h5; obtain rfl := h6; obtain rfl := h7; obtain rfl := h8; obtain rfl := h9; obtain rfl := h10
              simp only [Act.put, List.setIfInBounds_toArray, List.set_cons_zero, List.set_cons_succ] at hbf
              subst hbf
              replace BA7 := BA7.below hb6
              replace hV := hV.below hb6
              replace hU := hU.below hb6
              replace hS := hS.below hb6
              replace hX := hX.below hb6
              replace bb := bb.trans (hb6.mono bb.size)
              have hsz6 := bb.size
              replace hby := hby.trans (hb6.mono hby.size)
              refine ops_done ?_
              go_wp2
              go_roundw
              case rel => exact ⟨k + 1, by omega, HA2, hby, by go_num⟩
              case measure => simp [RowKit.intOf]; omega
          · have HZ : Hid (false = decide (x = 0)) := (decide_eq_false hx0).symm
            have HK : Hid (leadq p = k) := leadq_is (by omega) HA.out (fun y hy => by rw [HX.out] at hy; exact Option.some.inj hy ▸ hx0)
            clear hx0
            go_upto_region 5 with (fail)
            refine flowp 11 [Pd.eq (.int .i64 (k : Int)), Pd.eq (.slice (some ⟨gU_, oU_, none⟩) p.length cU), Pd.eq (.int .i64 ((p.length : Nat) : Int)), Pd.eq (.bool true), Pd.eq (.bool true), Pd.eq (.slice (some ⟨gU_, oU_, none⟩) p.length cU), Pd.eq (.int .i64 (k : Int)), Pd.eq (.pointer (some ⟨gU_, oU_ + k * 3, none⟩)), Pd.eq (.agg #[.bool (ngB (x).num), .slice Ae1 (digs 10000 (x).num.natAbs).length ce1, .slice De1 (digs 10000 (x).den).length ee1]), Pd.eq (.bool false), Pd.eq (.bool false)] (by kernel_rfl) ?ob29 ?done29
            case ob29 =>
              refine And.intro (ob_move rfl (wt_none rfl) (ev_far rfl rfl) (fun _ _ h => h)) ?_
              refine And.intro (ob_move rfl (wt_none rfl) (ev_far rfl rfl) (fun _ _ h => h)) ?_
              refine And.intro (ob_len rfl (wt_none rfl) (ev_dep (j := 1) (by kernel_rfl) rfl rfl) (fun _ _ hx => ⟨_, by rw [hx]; exact len_slice Tryz.underlying29 _ _ _ _, rfl⟩)) ?_
              refine And.intro (ob_bin rfl (wt_none rfl) (ev_dep (j := 0) (by kernel_rfl) rfl rfl) (ev_dep (j := 2) (by kernel_rfl) rfl rfl) (fun _ _ _ hx hy => ⟨.bool true, by rw [hx, hy, bin_lss_int, HLT.out], rfl⟩)) ?_
              refine And.intro (ob_move rfl (wt_none rfl) (ev_dep (j := 3) (by kernel_rfl) rfl rfl) (fun _ _ h => h)) ?_
              refine And.intro (ob_move rfl (wt_dep (c := true) (b := true) (g := 4) rfl (by kernel_rfl) rfl rfl rfl (by exact fun _ _ h => h)) (ev_far rfl rfl) (fun _ _ h => h)) ?_
              refine And.intro (ob_move rfl (wt_dep (c := true) (b := true) (g := 4) rfl (by kernel_rfl) rfl rfl rfl (by exact fun _ _ h => h)) (ev_far rfl rfl) (fun _ _ h => h)) ?_
              refine And.intro (ob_indexAddr rfl (wt_dep (c := true) (b := true) (g := 4) rfl (by kernel_rfl) rfl rfl rfl (by exact fun _ _ h => h)) (ev_dep (j := 5) (by kernel_rfl) rfl rfl) (ev_dep (j := 6) (by kernel_rfl) rfl rfl) (fun _ _ _ hx hy => ⟨_, by rw [hx, hy]; exact index3 (k := k) Tryz.underlying29 (by kernel_rfl) hlte1 _, rfl⟩)) ?_
              refine And.intro (ob_load rfl (wt_dep (c := true) (b := true) (g := 4) rfl (by kernel_rfl) rfl rfl rfl (by exact fun _ _ h => h)) (ev_dep (j := 7) (by kernel_rfl) rfl rfl) (fun w2 hb => load3 Tryz.underlying45 rfl (by kernel_rfl) ((hb.cell (World.block_lt_of_cell? wr _ ze10)).trans ze10) ((hb.cell (World.block_lt_of_cell? wr _ ze11)).trans ze11) ((hb.cell (World.block_lt_of_cell? wr _ ze12)).trans ze12)) (fun _ _ => rfl)) ?_
              refine And.intro (ob_call1 rfl Tryz.func17 (by kernel_rfl) (wt_dep (c := true) (b := true) (g := 4) rfl (by kernel_rfl) rfl rfl rfl (by exact fun _ _ h => h)) (ev_dep (j := 8) (by kernel_rfl) rfl rfl) (fun w2 u0 hb h0 => by obtain rfl := h0; exact (qzero_any _ x false _ (ze1.below hb) HZ.out).mono fun e w3 h => RetV.pd h)) ?_
              refine And.intro (ob_pick (b := true) rfl (wt_none rfl) (ev_dep (j := 4) (by kernel_rfl) rfl rfl) (ev_dep (j := 9) (by kernel_rfl) rfl rfl) (fun _ _ h => h)) ?_
              trivial
            case done29 =>
              refine fun w6 hb6 v0 h0 v1 h1 v2 h2 v3 h3 v4 h4 v5 h5 v6 h6 v7 h7 v8 h8 v9 h9 v10 h10 b hbf => ?_
              obtain rfl := h0; obtain rfl := h1; obtain rfl := h2; obtain rfl := h3; obtain rfl := h4; obtain rfl := h5; obtain rfl := h6; obtain rfl := h7; obtain rfl := h8; obtain rfl := h9; obtain rfl := h10
              simp only [Act.put, List.setIfInBounds_toArray, List.set_cons_zero, List.set_cons_succ] at hbf
              subst hbf
              replace BA7 := BA7.below hb6
              replace hV := hV.below hb6
              replace hU := hU.below hb6
              replace hS := hS.below hb6
              replace hX := hX.below hb6
              replace bb := bb.trans (hb6.mono bb.size)
              have hsz6 := bb.size
              replace hby := hby.trans (hb6.mono hby.size)
              refine ops_done ?_
              have HKI : Hid ((k : Int) = ((leadq p : Nat) : Int)) := by show _ = _; rw [HK.out]
              clear HA hby
              obtain ⟨T, hT⟩ : ∃ T, T = topq p := ⟨_, rfl⟩
              have HT := Lib.hid hT
              have HTI : Hid ((T : Int) = ((topq p : Nat) : Int)) := by show _ = _; rw [hT]
              clear hT
              obtain ⟨TB, hTB⟩ : ∃ TB, TB = decide (0 < p.length) := ⟨_, rfl⟩
              have HTB := Lib.hid hTB
              have HTB2 : Hid (decide ((0 : Int) < (p.length : Int)) = TB) := by show _ = _; rw [hTB]; exact decide_eq_decide.2 (by omega)
              clear hTB
              go_wp2_with fail
              refine (fgreatest_any _ p (T : Int) TB _ hV ⟨hl8p, HL3.out.2.1⟩ HTI.out HTB.out).mono ?_
              rintro e w20 ⟨rfl, b20⟩
              replace BA7 := BA7.below b20
              replace hV := hV.below b20
              replace hU := hU.below b20
              replace hS := hS.below b20
              replace hX := hX.below b20
              replace bb := bb.trans (b20.mono bb.size)
              have hsz20 := bb.size
              go_wp2
              go_loopw [12, 13] (fun v12 v13 wr => ∃ j i : Nat, j ≤ p.length ∧ Hid (i = bestq p j) ∧ Below w20.heap.size w20 wr ∧ v12 = .int .i64 (i : Int) ∧ v13 = .int .i64 (j : Int)) (fun _ v13 _ => p.length - (RowKit.intOf v13).toNat)
              case atStart => exact ⟨0, 0, by omega, rfl, Below.refl _ _, rfl, rfl⟩
              case round =>
                obtain ⟨j, i, hj, HI, hby, rfl, rfl⟩ := hrel
                replace BA7 := BA7.below hby
                replace hV := hV.below hby
                replace hU := hU.below hby
                replace hS := hS.below hby
                replace hX := hX.below hby
                replace bb := bb.trans (hby.mono bb.size)
                have hsz21 := bb.size
                have hszr2 := bb.size
                by_cases hlt2 : j < p.length
                · have hilt : i < p.length := by have := HI.out; rcases bestq_lt p j with h | h <;> omega
                  obtain ⟨x, hx⟩ : ∃ x, p[j]? = some x := ⟨_, List.getElem?_eq_getElem hlt2⟩
                  obtain ⟨y, hy⟩ : ∃ y, p[i]? = some y := ⟨_, List.getElem?_eq_getElem hilt⟩
                  have lx : lenQ x 1 := HP1.out x (List.mem_of_getElem? hx)
                  have ly : lenQ y 1 := HP1.out y (List.mem_of_getElem? hy)
                  have HXJ := Lib.hid hx
                  have HYI := Lib.hid hy
                  clear hx hy
                  obtain ⟨ue5, te5, hlte5, ze50, ze51, ze52, ze5s, ze5d⟩ := hU.at2 HXJ.out
                  obtain ⟨Ae5, ce5, rfl, _⟩ := id ze5s
                  obtain ⟨De5, ee5, rfl, _⟩ := id ze5d
                  have ze5 : IsP wr (.agg #[.bool (ngB (x).num), .slice Ae5 (digs 10000 (x).num.natAbs).length ce5, .slice De5 (digs 10000 (x).den).length ee5]) (x) := ⟨_, _, rfl, ze5s, ze5d⟩
                  obtain ⟨ue6, te6, hlte6, ze60, ze61, ze62, ze6s, ze6d⟩ := hU.at2 HYI.out
                  obtain ⟨Ae6, ce6, rfl, _⟩ := id ze6s
                  obtain ⟨De6, ee6, rfl, _⟩ := id ze6d
                  have ze6 : IsP wr (.agg #[.bool (ngB (y).num), .slice Ae6 (digs 10000 (y).num.natAbs).length ce6, .slice De6 (digs 10000 (y).den).length ee6]) (y) := ⟨_, _, rfl, ze6s, ze6d⟩
                  by_cases c2 : y < x
                  · have o2 : 0 < ordq x y := ordq_pos.2 c2
                    have HI2 : Hid (j = bestq p (j + 1)) := by have e := HI.out; have hy := HYI.out; rw [e] at hy; show _ = _; rw [bestq_yes HXJ.out hy c2]
                    clear c2
                    go_upto_region 12 with (fail)
                    refine flow 10 [Pd.eq (.slice (some ⟨gU_, oU_, none⟩) p.length cU), Pd.eq (.int .i64 (j : Int)), Pd.eq (.pointer (some ⟨gU_, oU_ + j * 3, none⟩)), Pd.eq (.agg #[.bool (ngB (x).num), .slice Ae5 (digs 10000 (x).num.natAbs).length ce5, .slice De5 (digs 10000 (x).den).length ee5]), Pd.eq (.slice (some ⟨gU_, oU_, none⟩) p.length cU), Pd.eq (.int .i64 (i : Int)), Pd.eq (.pointer (some ⟨gU_, oU_ + i * 3, none⟩)), Pd.eq (.agg #[.bool (ngB (y).num), .slice Ae6 (digs 10000 (y).num.natAbs).length ce6, .slice De6 (digs 10000 (y).den).length ee6]), Pd.eq (.int .i64 (ordq (x) (y))), Pd.eq (.bool (decide (0 < (ordq (x) (y)))))] (by kernel_rfl) (by kernel_rfl) ?ob30 ?done30
                    case ob30 =>
                      refine And.intro (ob_move rfl (wt_none rfl) (ev_far rfl rfl) (fun _ _ h => h)) ?_
                      refine And.intro (ob_move rfl (wt_none rfl) (ev_far rfl rfl) (fun _ _ h => h)) ?_
                      refine And.intro (ob_indexAddr rfl (wt_none rfl) (ev_dep (j := 0) (by kernel_rfl) rfl rfl) (ev_dep (j := 1) (by kernel_rfl) rfl rfl) (fun _ _ _ hx hy => ⟨_, by rw [hx, hy]; exact index3 (k := j) Tryz.underlying29 (by kernel_rfl) hlte5 _, rfl⟩)) ?_
                      refine And.intro (ob_load rfl (wt_none rfl) (ev_dep (j := 2) (by kernel_rfl) rfl rfl) (fun w2 hb => load3 Tryz.underlying45 rfl (by kernel_rfl) ((hb.cell (World.block_lt_of_cell? wr _ ze50)).trans ze50) ((hb.cell (World.block_lt_of_cell? wr _ ze51)).trans ze51) ((hb.cell (World.block_lt_of_cell? wr _ ze52)).trans ze52)) (fun _ _ => rfl)) ?_
                      refine And.intro (ob_move rfl (wt_none rfl) (ev_far rfl rfl) (fun _ _ h => h)) ?_
                      refine And.intro (ob_move rfl (wt_none rfl) (ev_far rfl rfl) (fun _ _ h => h)) ?_
                      refine And.intro (ob_indexAddr rfl (wt_none rfl) (ev_dep (j := 4) (by kernel_rfl) rfl rfl) (ev_dep (j := 5) (by kernel_rfl) rfl rfl) (fun _ _ _ hx hy => ⟨_, by rw [hx, hy]; exact index3 (k := i) Tryz.underlying29 (by kernel_rfl) hlte6 _, rfl⟩)) ?_
                      refine And.intro (ob_load rfl (wt_none rfl) (ev_dep (j := 6) (by kernel_rfl) rfl rfl) (fun w2 hb => load3 Tryz.underlying45 rfl (by kernel_rfl) ((hb.cell (World.block_lt_of_cell? wr _ ze60)).trans ze60) ((hb.cell (World.block_lt_of_cell? wr _ ze61)).trans ze61) ((hb.cell (World.block_lt_of_cell? wr _ ze62)).trans ze62)) (fun _ _ => rfl)) ?_
                      refine And.intro (ob_call2 rfl Tryz.func19 (by kernel_rfl) (wt_none rfl) (ev_dep (j := 3) (by kernel_rfl) rfl rfl) (ev_dep (j := 7) (by kernel_rfl) rfl rfl) (fun w2 u0 u1 hb h0 h1 => by obtain rfl := h0; obtain rfl := h1; exact (qcmp_any _ (x) _ (y) _ _ (ze5.drew.below hb) (ze6.drew.below hb) (lx.mono (by decide)) (ly.mono (by decide)) rfl).mono fun e w3 h => RetV.pd h)) ?_
                      refine And.intro (ob_bin rfl (wt_none rfl) (ev_dep (j := 8) (by kernel_rfl) rfl rfl) (ev_const _) (fun _ _ _ hx hy => ⟨.bool (decide (0 < (ordq (x) (y)))), by rw [hx, hy]; exact bin_gtr_int _ _ _ _ _, rfl⟩)) ?_
                      trivial
                    case done30 =>
                      refine fun w22 hb22 v0 h0 v1 h1 v2 h2 v3 h3 v4 h4 v5 h5 v6 h6 v7 h7 v8 h8 v9 h9 b hbf => ?_
                      obtain rfl := h0; obtain rfl := h1; obtain rfl := h2; obtain rfl := h3; obtain rfl := h4; obtain rfl := h5; obtain rfl := h6; obtain rfl := h7; obtain rfl := h8; obtain rfl := h9
                      simp only [Act.put, List.setIfInBounds_toArray, List.set_cons_zero, List.set_cons_succ] at hbf
                      subst hbf
                      replace BA7 := BA7.below hb22
                      replace hV := hV.below hb22
                      replace hU := hU.below hb22
                      replace hS := hS.below hb22
                      replace hX := hX.below hb22
                      replace bb := bb.trans (hb22.mono bb.size)
                      have hsz22 := bb.size
                      replace hby := hby.trans (hb22.mono hby.size)
                      refine any_done (by kernel_rfl) ?_
                      go_wp2
                      go_roundw
                      case rel => exact ⟨j + 1, j, by omega, HI2, hby, rfl, by go_num⟩
                      case measure => simp [RowKit.intOf]; omega
                  · have o2 : ¬ 0 < ordq x y := fun h => c2 (ordq_pos.1 h)
                    have HI2 : Hid (i = bestq p (j + 1)) := by have e := HI.out; have hy := HYI.out; rw [e] at hy; show _ = _; rw [bestq_no HXJ.out hy c2]; exact e
                    clear c2
                    go_upto_region 12 with (fail)
                    refine flow 10 [Pd.eq (.slice (some ⟨gU_, oU_, none⟩) p.length cU), Pd.eq (.int .i64 (j : Int)), Pd.eq (.pointer (some ⟨gU_, oU_ + j * 3, none⟩)), Pd.eq (.agg #[.bool (ngB (x).num), .slice Ae5 (digs 10000 (x).num.natAbs).length ce5, .slice De5 (digs 10000 (x).den).length ee5]), Pd.eq (.slice (some ⟨gU_, oU_, none⟩) p.length cU), Pd.eq (.int .i64 (i : Int)), Pd.eq (.pointer (some ⟨gU_, oU_ + i * 3, none⟩)), Pd.eq (.agg #[.bool (ngB (y).num), .slice Ae6 (digs 10000 (y).num.natAbs).length ce6, .slice De6 (digs 10000 (y).den).length ee6]), Pd.eq (.int .i64 (ordq (x) (y))), Pd.eq (.bool (decide (0 < (ordq (x) (y)))))] (by kernel_rfl) (by kernel_rfl) ?ob31 ?done31
                    case ob31 =>
                      refine And.intro (ob_move rfl (wt_none rfl) (ev_far rfl rfl) (fun _ _ h => h)) ?_
                      refine And.intro (ob_move rfl (wt_none rfl) (ev_far rfl rfl) (fun _ _ h => h)) ?_
                      refine And.intro (ob_indexAddr rfl (wt_none rfl) (ev_dep (j := 0) (by kernel_rfl) rfl rfl) (ev_dep (j := 1) (by kernel_rfl) rfl rfl) (fun _ _ _ hx hy => ⟨_, by rw [hx, hy]; exact index3 (k := j) Tryz.underlying29 (by kernel_rfl) hlte5 _, rfl⟩)) ?_
                      refine And.intro (ob_load rfl (wt_none rfl) (ev_dep (j := 2) (by kernel_rfl) rfl rfl) (fun w2 hb => load3 Tryz.underlying45 rfl (by kernel_rfl) ((hb.cell (World.block_lt_of_cell? wr _ ze50)).trans ze50) ((hb.cell (World.block_lt_of_cell? wr _ ze51)).trans ze51) ((hb.cell (World.block_lt_of_cell? wr _ ze52)).trans ze52)) (fun _ _ => rfl)) ?_
                      refine And.intro (ob_move rfl (wt_none rfl) (ev_far rfl rfl) (fun _ _ h => h)) ?_
                      refine And.intro (ob_move rfl (wt_none rfl) (ev_far rfl rfl) (fun _ _ h => h)) ?_
                      refine And.intro (ob_indexAddr rfl (wt_none rfl) (ev_dep (j := 4) (by kernel_rfl) rfl rfl) (ev_dep (j := 5) (by kernel_rfl) rfl rfl) (fun _ _ _ hx hy => ⟨_, by rw [hx, hy]; exact index3 (k := i) Tryz.underlying29 (by kernel_rfl) hlte6 _, rfl⟩)) ?_
                      refine And.intro (ob_load rfl (wt_none rfl) (ev_dep (j := 6) (by kernel_rfl) rfl rfl) (fun w2 hb => load3 Tryz.underlying45 rfl (by kernel_rfl) ((hb.cell (World.block_lt_of_cell? wr _ ze60)).trans ze60) ((hb.cell (World.block_lt_of_cell? wr _ ze61)).trans ze61) ((hb.cell (World.block_lt_of_cell? wr _ ze62)).trans ze62)) (fun _ _ => rfl)) ?_
                      refine And.intro (ob_call2 rfl Tryz.func19 (by kernel_rfl) (wt_none rfl) (ev_dep (j := 3) (by kernel_rfl) rfl rfl) (ev_dep (j := 7) (by kernel_rfl) rfl rfl) (fun w2 u0 u1 hb h0 h1 => by obtain rfl := h0; obtain rfl := h1; exact (qcmp_any _ (x) _ (y) _ _ (ze5.drew.below hb) (ze6.drew.below hb) (lx.mono (by decide)) (ly.mono (by decide)) rfl).mono fun e w3 h => RetV.pd h)) ?_
                      refine And.intro (ob_bin rfl (wt_none rfl) (ev_dep (j := 8) (by kernel_rfl) rfl rfl) (ev_const _) (fun _ _ _ hx hy => ⟨.bool (decide (0 < (ordq (x) (y)))), by rw [hx, hy]; exact bin_gtr_int _ _ _ _ _, rfl⟩)) ?_
                      trivial
                    case done31 =>
                      refine fun w22 hb22 v0 h0 v1 h1 v2 h2 v3 h3 v4 h4 v5 h5 v6 h6 v7 h7 v8 h8 v9 h9 b hbf => ?_
                      obtain rfl := h0; obtain rfl := h1; obtain rfl := h2; obtain rfl := h3; obtain rfl := h4; obtain rfl := h5; obtain rfl := h6; obtain rfl := h7; obtain rfl := h8; obtain rfl := h9
                      simp only [Act.put, List.setIfInBounds_toArray, List.set_cons_zero, List.set_cons_succ] at hbf
                      subst hbf
                      replace BA7 := BA7.below hb22
                      replace hV := hV.below hb22
                      replace hU := hU.below hb22
                      replace hS := hS.below hb22
                      replace hX := hX.below hb22
                      replace bb := bb.trans (hb22.mono bb.size)
                      have hsz22 := bb.size
                      replace hby := hby.trans (hb22.mono hby.size)
                      refine any_done (by kernel_rfl) ?_
                      go_wp2
                      go_roundw
                      case rel => exact ⟨j + 1, i, by omega, HI2, hby, rfl, by go_num⟩
                      case measure => simp [RowKit.intOf]; omega
                · obtain rfl : i = T := by rw [HI.out, HT.out, topq, show j = p.length by omega]
                  obtain ⟨SB, hSB⟩ : ∃ SB, SB = decide (p = q) := ⟨_, rfl⟩
                  obtain ⟨IT, hIT⟩ : ∃ IT : Int, IT = if p = q then 1 else 0 := ⟨_, rfl⟩
                  have HSB := Lib.hid hSB
                  have HIT := Lib.hid hIT
                  have HIS : Hid ((IT == 1) = SB) := by
                    show _ = _
                    rw [hIT, hSB]
                    by_cases c : p = q
                    · rw [if_pos c, decide_eq_true c]; rfl
                    · rw [if_neg c, decide_eq_false c]; rfl
                  have HLL : Hid (p.length ≤ 200 ∧ ∀ x ∈ p, lenQ x 3) := ⟨by omega, HL3.out.2.1⟩
                  have HLS : Hid (p.length ≤ 8 ∧ (∀ x ∈ p, lenQ x 3) ∧ ∀ x ∈ p, lenQ x 3) := ⟨by omega, HL3.out.2.1, HL3.out.2.1⟩
                  have HQL : Hid (∀ x ∈ q, lenQ x 30000) := fun x hx => (HQ1.out x hx).mono (by decide)
                  clear hSB hIT HI HT
                  go_upto_region 14 with (fail)
                  refine flowp 10 [Pd.eq (.int .i64 (i : Int)), Pd.eq (.int .i64 (i : Int)), Pd.eq (.bool false), Pd.eq (.bool false), Pd.eq (.bool TB), Pd.eq (.slice (some ⟨gU_, oU_, none⟩) p.length cU), Pd.eq (.int .i64 ((p.length : Nat) : Int)), Pd.eq (.bool TB), Pd.eq (.bool false), Pd.eq (.bool false)] (by kernel_rfl) ?ob32 ?done32
                  case ob32 =>
                    refine And.intro (ob_move rfl (wt_none rfl) (ev_far rfl rfl) (fun _ _ h => h)) ?_
                    refine And.intro (ob_move rfl (wt_none rfl) (ev_far rfl rfl) (fun _ _ h => h)) ?_
                    refine And.intro (ob_bin rfl (wt_none rfl) (ev_dep (j := 0) (by kernel_rfl) rfl rfl) (ev_dep (j := 1) (by kernel_rfl) rfl rfl) (fun _ _ _ hx hy => ⟨.bool false, by rw [hx, hy, bin_neq_int, bne_self_eq_false], rfl⟩)) ?_
                    refine And.intro (ob_move rfl (wt_none rfl) (ev_dep (j := 2) (by kernel_rfl) rfl rfl) (fun _ _ h => h)) ?_
                    refine And.intro (ob_move rfl (wt_dep (c := false) (b := false) (g := 3) rfl (by kernel_rfl) rfl rfl rfl (by exact fun _ _ h => h)) (ev_far rfl rfl) (fun _ _ h => h)) ?_
                    refine And.intro (ob_move rfl (wt_dep (c := false) (b := false) (g := 3) rfl (by kernel_rfl) rfl rfl rfl (by exact fun _ _ h => h)) (ev_far rfl rfl) (fun _ _ h => h)) ?_
                    refine And.intro (ob_len rfl (wt_dep (c := false) (b := false) (g := 3) rfl (by kernel_rfl) rfl rfl rfl (by exact fun _ _ h => h)) (ev_dep (j := 5) (by kernel_rfl) rfl rfl) (fun _ _ hx => ⟨_, by rw [hx]; exact len_slice Tryz.underlying29 _ _ _ _, rfl⟩)) ?_
                    refine And.intro (ob_bin rfl (wt_dep (c := false) (b := false) (g := 3) rfl (by kernel_rfl) rfl rfl rfl (by exact fun _ _ h => h)) (ev_dep (j := 6) (by kernel_rfl) rfl rfl) (ev_const _) (fun _ _ _ hx hy => ⟨.bool TB, by rw [hx, hy, bin_gtr_int, HTB2.out], rfl⟩)) ?_
                    refine And.intro (ob_bin rfl (wt_dep (c := false) (b := false) (g := 3) rfl (by kernel_rfl) rfl rfl rfl (by exact fun _ _ h => h)) (ev_dep (j := 4) (by kernel_rfl) rfl rfl) (ev_dep (j := 7) (by kernel_rfl) rfl rfl) (fun _ _ _ hx hy => ⟨.bool false, by rw [hx, hy, bin_neq_bool _ _ _ _ Tryz.underlying4, beq_self_eq_true, Bool.not_true], rfl⟩)) ?_
                    refine And.intro (ob_pick (b := false) rfl (wt_none rfl) (ev_dep (j := 3) (by kernel_rfl) rfl rfl) (ev_dep (j := 8) (by kernel_rfl) rfl rfl) (fun _ _ h => h)) ?_
                    trivial
                  case done32 =>
                    refine fun w22 hb22 v0 h0 v1 h1 v2 h2 v3 h3 v4 h4 v5 h5 v6 h6 v7 h7 v8 h8 v9 h9 b hbf => ?_
                    obtain rfl := h0; obtain rfl := h1; obtain rfl := h2; obtain rfl := h3; obtain rfl := h4; obtain rfl := h5; obtain rfl := h6; obtain rfl := h7; obtain rfl := h8; obtain rfl := h9
                    simp only [Act.put, List.setIfInBounds_toArray, List.set_cons_zero, List.set_cons_succ] at hbf
                    subst hbf
                    replace BA7 := BA7.below hb22
                    replace hV := hV.below hb22
                    replace hU := hU.below hb22
                    replace hS := hS.below hb22
                    replace hX := hX.below hb22
                    replace bb := bb.trans (hb22.mono bb.size)
                    have hsz22 := bb.size
                    replace hby := hby.trans (hb22.mono hby.size)
                    refine ops_done ?_
                    go_upto_region 16 with (fail)
                    refine flowp 20 [Pd.eq (.slice AV p.length cV), Pd.eq (.int .i64 (k : Int)), Pd.eq (.int .i64 (k : Int)), Pd.eq (.bool false), Pd.eq (.bool false), Pd.eq (.slice AV p.length cV), Pd.eq (.slice AS q.length cS), Pd.eq (.bool SB), Pd.eq (.slice AV p.length cV), Pd.eq (.slice AX q.length cX), Pd.eq (.int .i64 IT), Pd.eq (.bool SB), Pd.eq (.bool false), Pd.eq (.bool false), Pd.eq (.bool false), Pd.eq (.slice AV p.length cV), Pd.eq (.slice AV p.length cV), Pd.eq (.bool true), Pd.eq (.bool false), Pd.eq (.bool false)] (by kernel_rfl) ?ob33 ?done33
                    case ob33 =>
                      refine And.intro (ob_move rfl (wt_none rfl) (ev_far rfl rfl) (fun _ _ h => h)) ?_
                      refine And.intro (ob_call1 rfl Tryz.func20 (by kernel_rfl) (wt_none rfl) (ev_dep (j := 0) (by kernel_rfl) rfl rfl) (fun w2 u0 hb h0 => by obtain rfl := h0; exact (flead_any _ p (k : Int) _ (hV.below hb) HLL.out HKI.out).mono fun e w3 h => RetV.pd h)) ?_
                      refine And.intro (ob_move rfl (wt_none rfl) (ev_far rfl rfl) (fun _ _ h => h)) ?_
                      refine And.intro (ob_bin rfl (wt_none rfl) (ev_dep (j := 1) (by kernel_rfl) rfl rfl) (ev_dep (j := 2) (by kernel_rfl) rfl rfl) (fun _ _ _ hx hy => ⟨.bool false, by rw [hx, hy, bin_neq_int, bne_self_eq_false], rfl⟩)) ?_
                      refine And.intro (ob_move rfl (wt_none rfl) (ev_dep (j := 3) (by kernel_rfl) rfl rfl) (fun _ _ h => h)) ?_
                      refine And.intro (ob_move rfl (wt_dep (c := false) (b := false) (g := 4) rfl (by kernel_rfl) rfl rfl rfl (by exact fun _ _ h => h)) (ev_far rfl rfl) (fun _ _ h => h)) ?_
                      refine And.intro (ob_move rfl (wt_dep (c := false) (b := false) (g := 4) rfl (by kernel_rfl) rfl rfl rfl (by exact fun _ _ h => h)) (ev_far rfl rfl) (fun _ _ h => h)) ?_
                      refine And.intro (ob_call2 rfl Tryz.func21 (by kernel_rfl) (wt_dep (c := false) (b := false) (g := 4) rfl (by kernel_rfl) rfl rfl rfl (by exact fun _ _ h => h)) (ev_dep (j := 5) (by kernel_rfl) rfl rfl) (ev_dep (j := 6) (by kernel_rfl) rfl rfl) (fun w2 u0 u1 hb h0 h1 => by obtain rfl := h0; obtain rfl := h1; exact (fvsame_any _ _ p q SB _ (hV.below hb) (hS.below hb) HL3.out HSB.out).mono fun e w3 h => RetV.pd h)) ?_
                      refine And.intro (ob_move rfl (wt_dep (c := false) (b := false) (g := 4) rfl (by kernel_rfl) rfl rfl rfl (by exact fun _ _ h => h)) (ev_far rfl rfl) (fun _ _ h => h)) ?_
                      refine And.intro (ob_move rfl (wt_dep (c := false) (b := false) (g := 4) rfl (by kernel_rfl) rfl rfl rfl (by exact fun _ _ h => h)) (ev_far rfl rfl) (fun _ _ h => h)) ?_
                      refine And.intro (ob_call2 rfl Tryz.func9 (by kernel_rfl) (wt_dep (c := false) (b := false) (g := 4) rfl (by kernel_rfl) rfl rfl rfl (by exact fun _ _ h => h)) (ev_dep (j := 8) (by kernel_rfl) rfl rfl) (ev_dep (j := 9) (by kernel_rfl) rfl rfl) (fun w2 u0 u1 hb h0 h1 => by obtain rfl := h0; obtain rfl := h1; exact (is_any _ _ p q IT _ (hV.below hb) (hX.below hb) HQL.out HIT.out).mono fun e w3 h => RetV.pd h)) ?_
                      refine And.intro (ob_bin rfl (wt_dep (c := false) (b := false) (g := 4) rfl (by kernel_rfl) rfl rfl rfl (by exact fun _ _ h => h)) (ev_dep (j := 10) (by kernel_rfl) rfl rfl) (ev_const _) (fun _ _ _ hx hy => ⟨.bool SB, by rw [hx, hy, bin_eql_int, HIS.out], rfl⟩)) ?_
                      refine And.intro (ob_bin rfl (wt_dep (c := false) (b := false) (g := 4) rfl (by kernel_rfl) rfl rfl rfl (by exact fun _ _ h => h)) (ev_dep (j := 7) (by kernel_rfl) rfl rfl) (ev_dep (j := 11) (by kernel_rfl) rfl rfl) (fun _ _ _ hx hy => ⟨.bool false, by rw [hx, hy, bin_neq_bool _ _ _ _ Tryz.underlying4, beq_self_eq_true, Bool.not_true], rfl⟩)) ?_
                      refine And.intro (ob_pick (b := false) rfl (wt_none rfl) (ev_dep (j := 4) (by kernel_rfl) rfl rfl) (ev_dep (j := 12) (by kernel_rfl) rfl rfl) (fun _ _ h => h)) ?_
                      refine And.intro (ob_move rfl (wt_none rfl) (ev_dep (j := 13) (by kernel_rfl) rfl rfl) (fun _ _ h => h)) ?_
                      refine And.intro (ob_move rfl (wt_dep (c := false) (b := false) (g := 14) rfl (by kernel_rfl) rfl rfl rfl (by exact fun _ _ h => h)) (ev_far rfl rfl) (fun _ _ h => h)) ?_
                      refine And.intro (ob_move rfl (wt_dep (c := false) (b := false) (g := 14) rfl (by kernel_rfl) rfl rfl rfl (by exact fun _ _ h => h)) (ev_far rfl rfl) (fun _ _ h => h)) ?_
                      refine And.intro (ob_call2 rfl Tryz.func21 (by kernel_rfl) (wt_dep (c := false) (b := false) (g := 14) rfl (by kernel_rfl) rfl rfl rfl (by exact fun _ _ h => h)) (ev_dep (j := 15) (by kernel_rfl) rfl rfl) (ev_dep (j := 16) (by kernel_rfl) rfl rfl) (fun w2 u0 u1 hb h0 h1 => by obtain rfl := h0; obtain rfl := h1; exact (fvsame_any _ _ p p true _ (hV.below hb) (hV.below hb) HLS.out (decide_eq_true rfl).symm).mono fun e w3 h => RetV.pd h)) ?_
                      refine And.intro (ob_un rfl (wt_dep (c := false) (b := false) (g := 14) rfl (by kernel_rfl) rfl rfl rfl (by exact fun _ _ h => h)) (ev_dep (j := 17) (by kernel_rfl) rfl rfl) (fun _ => un_not _ _) (fun _ => rfl)) ?_
                      refine And.intro (ob_pick (b := false) rfl (wt_none rfl) (ev_dep (j := 14) (by kernel_rfl) rfl rfl) (ev_dep (j := 18) (by kernel_rfl) rfl rfl) (fun _ _ h => h)) ?_
                      trivial
                    case done33 =>
                      refine fun w23 hb23 v0 h0 v1 h1 v2 h2 v3 h3 v4 h4 v5 h5 v6 h6 v7 h7 v8 h8 v9 h9 v10 h10 v11 h11 v12 h12 v13 h13 v14 h14 v15 h15 v16 h16 v17 h17 v18 h18 v19 h19 b hbf => ?_
                      obtain rfl := h0; obtain rfl := h1; obtain rfl := h2; obtain rfl := h3; obtain rfl := h4; obtain rfl := h5; obtain rfl := h6; obtain rfl := h7; obtain rfl := h8; obtain rfl := h9; obtain rfl := h10; obtain rfl := h11; obtain rfl := h12; obtain rfl := h13; obtain rfl := h14; obtain rfl := h15; obtain rfl := h16; obtain rfl := h17; obtain rfl := h18; obtain rfl := h19
                      simp only [Act.put, List.setIfInBounds_toArray, List.set_cons_zero, List.set_cons_succ] at hbf
                      subst hbf
                      replace BA7 := BA7.below hb23
                      replace hV := hV.below hb23
                      replace hU := hU.below hb23
                      replace hS := hS.below hb23
                      replace hX := hX.below hb23
                      replace bb := bb.trans (hb23.mono bb.size)
                      have hsz23 := bb.size
                      replace hby := hby.trans (hb23.mono hby.size)
                      refine ops_done ?_
                      have hE := HE.out
                      have heb : (((p.length : Nat) : Int) == ((q.length : Nat) : Int)) = false := by rw [beq_eq_false_iff_ne]; omega
                      clear hE
                      go_upto_region 19 with (fail)
                      refine flowp 6 [Pd.eq (.int .i64 8), Pd.eq (.bool true), Pd.eq (.bool true), Pd.eq (.bool true), Pd.eq (.bool true), Pd.eq (.bool true)] (by kernel_rfl) ?ob34 ?done34
                      case ob34 =>
                        refine And.intro (ob_move rfl (wt_none rfl) (ev_far rfl rfl) (fun _ _ h => h)) ?_
                        refine And.intro (ob_bin rfl (wt_none rfl) (ev_dep (j := 0) (by kernel_rfl) rfl rfl) (ev_const _) (fun _ _ _ hx hy => ⟨.bool true, by rw [hx, hy, bin_eql_int]; rfl, rfl⟩)) ?_
                        refine And.intro (ob_move rfl (wt_none rfl) (ev_dep (j := 1) (by kernel_rfl) rfl rfl) (fun _ _ h => h)) ?_
                        refine And.intro (ob_call0 rfl Tryz.func13 (by kernel_rfl) (wt_dep (c := true) (b := true) (g := 2) rfl (by kernel_rfl) rfl rfl rfl (by exact fun _ _ h => h)) (fun w2 hb => (works11_any _).mono fun e w3 h => RetV.pd h)) ?_
                        refine And.intro (ob_pick (b := true) rfl (wt_none rfl) (ev_dep (j := 2) (by kernel_rfl) rfl rfl) (ev_dep (j := 3) (by kernel_rfl) rfl rfl) (fun _ _ h => h)) ?_
                        refine And.intro (ob_assign rfl (wt_none rfl) (ev_dep (j := 4) (by kernel_rfl) rfl rfl) (fun _ _ h => h)) ?_
                        trivial
                      case done34 =>
                        refine fun w24 hb24 v0 h0 v1 h1 v2 h2 v3 h3 v4 h4 v5 h5 b hbf => ?_
                        obtain rfl := h0; obtain rfl := h1; obtain rfl := h2; obtain rfl := h3; obtain rfl := h4; obtain rfl := h5
                        simp only [Act.put, List.setIfInBounds_toArray, List.set_cons_zero, List.set_cons_succ] at hbf
                        subst hbf
                        replace BA7 := BA7.below hb24
                        replace hV := hV.below hb24
                        replace hU := hU.below hb24
                        replace hS := hS.below hb24
                        replace hX := hX.below hb24
                        replace bb := bb.trans (hb24.mono bb.size)
                        have hsz24 := bb.size
                        replace hby := hby.trans (hb24.mono hby.size)
                        refine ops_done ?_
                        go_wp2
                        go_ret
                        exact ⟨rfl, bb⟩
        · have HLT : Hid (decide ((k : Int) < (p.length : Int)) = false) := decide_eq_false (by omega)
          have HK : Hid (leadq p = k) := leadq_is (by omega) HA.out (fun y hy => by have := (List.getElem?_eq_some_iff.1 hy).1; omega)
          have HKI : Hid ((k : Int) = ((leadq p : Nat) : Int)) := by show _ = _; rw [HK.out]
          clear HA hby
          obtain ⟨T, hT⟩ : ∃ T, T = topq p := ⟨_, rfl⟩
          have HT := Lib.hid hT
          have HTI : Hid ((T : Int) = ((topq p : Nat) : Int)) := by show _ = _; rw [hT]
          clear hT
          obtain ⟨TB, hTB⟩ : ∃ TB, TB = decide (0 < p.length) := ⟨_, rfl⟩
          have HTB := Lib.hid hTB
          have HTB2 : Hid (decide ((0 : Int) < (p.length : Int)) = TB) := by show _ = _; rw [hTB]; exact decide_eq_decide.2 (by omega)
          clear hTB
          go_wp2_with fail
          refine (fgreatest_any _ p (T : Int) TB _ hV ⟨hl8p, HL3.out.2.1⟩ HTI.out HTB.out).mono ?_
          rintro e w20 ⟨rfl, b20⟩
          replace BA7 := BA7.below b20
          replace hV := hV.below b20
          replace hU := hU.below b20
          replace hS := hS.below b20
          replace hX := hX.below b20
          replace bb := bb.trans (b20.mono bb.size)
          have hsz20 := bb.size
          go_wp2
          go_loopw [12, 13] (fun v12 v13 wr => ∃ j i : Nat, j ≤ p.length ∧ Hid (i = bestq p j) ∧ Below w20.heap.size w20 wr ∧ v12 = .int .i64 (i : Int) ∧ v13 = .int .i64 (j : Int)) (fun _ v13 _ => p.length - (RowKit.intOf v13).toNat)
          case atStart => exact ⟨0, 0, by omega, rfl, Below.refl _ _, rfl, rfl⟩
          case round =>
            obtain ⟨j, i, hj, HI, hby, rfl, rfl⟩ := hrel
            replace BA7 := BA7.below hby
            replace hV := hV.below hby
            replace hU := hU.below hby
            replace hS := hS.below hby
            replace hX := hX.below hby
            replace bb := bb.trans (hby.mono bb.size)
            have hsz21 := bb.size
            have hszr2 := bb.size
            by_cases hlt2 : j < p.length
            · have hilt : i < p.length := by have := HI.out; rcases bestq_lt p j with h | h <;> omega
              obtain ⟨x, hx⟩ : ∃ x, p[j]? = some x := ⟨_, List.getElem?_eq_getElem hlt2⟩
              obtain ⟨y, hy⟩ : ∃ y, p[i]? = some y := ⟨_, List.getElem?_eq_getElem hilt⟩
              have lx : lenQ x 1 := HP1.out x (List.mem_of_getElem? hx)
              have ly : lenQ y 1 := HP1.out y (List.mem_of_getElem? hy)
              have HXJ := Lib.hid hx
              have HYI := Lib.hid hy
              clear hx hy
              obtain ⟨gU_, oU_, cU_, eU_, _, _, hmU_⟩ := hU.place (List.length_pos_iff.1 (by omega))
              injection eU_ with eU1 eU2 eU3
              subst eU1
              subst eU3
              obtain ⟨ue5, te5, hlte5, ze50, ze51, ze52, ze5s, ze5d⟩ := hU.at2 HXJ.out
              obtain ⟨Ae5, ce5, rfl, _⟩ := id ze5s
              obtain ⟨De5, ee5, rfl, _⟩ := id ze5d
              have ze5 : IsP wr (.agg #[.bool (ngB (x).num), .slice Ae5 (digs 10000 (x).num.natAbs).length ce5, .slice De5 (digs 10000 (x).den).length ee5]) (x) := ⟨_, _, rfl, ze5s, ze5d⟩
              obtain ⟨ue6, te6, hlte6, ze60, ze61, ze62, ze6s, ze6d⟩ := hU.at2 HYI.out
              obtain ⟨Ae6, ce6, rfl, _⟩ := id ze6s
              obtain ⟨De6, ee6, rfl, _⟩ := id ze6d
              have ze6 : IsP wr (.agg #[.bool (ngB (y).num), .slice Ae6 (digs 10000 (y).num.natAbs).length ce6, .slice De6 (digs 10000 (y).den).length ee6]) (y) := ⟨_, _, rfl, ze6s, ze6d⟩
              by_cases c2 : y < x
              · have o2 : 0 < ordq x y := ordq_pos.2 c2
                have HI2 : Hid (j = bestq p (j + 1)) := by have e := HI.out; have hy := HYI.out; rw [e] at hy; show _ = _; rw [bestq_yes HXJ.out hy c2]
                clear c2
                go_upto_region 12 with (fail)
                refine flow 10 [Pd.eq (.slice (some ⟨gU_, oU_, none⟩) p.length cU), Pd.eq (.int .i64 (j : Int)), Pd.eq (.pointer (some ⟨gU_, oU_ + j * 3, none⟩)), Pd.eq (.agg #[.bool (ngB (x).num), .slice Ae5 (digs 10000 (x).num.natAbs).length ce5, .slice De5 (digs 10000 (x).den).length ee5]), Pd.eq (.slice (some ⟨gU_, oU_, none⟩) p.length cU), Pd.eq (.int .i64 (i : Int)), Pd.eq (.pointer (some ⟨gU_, oU_ + i * 3, none⟩)), Pd.eq (.agg #[.bool (ngB (y).num), .slice Ae6 (digs 10000 (y).num.natAbs).length ce6, .slice De6 (digs 10000 (y).den).length ee6]), Pd.eq (.int .i64 (ordq (x) (y))), Pd.eq (.bool (decide (0 < (ordq (x) (y)))))] (by kernel_rfl) (by kernel_rfl) ?ob35 ?done35
                case ob35 =>
                  refine And.intro (ob_move rfl (wt_none rfl) (ev_far rfl rfl) (fun _ _ h => h)) ?_
                  refine And.intro (ob_move rfl (wt_none rfl) (ev_far rfl rfl) (fun _ _ h => h)) ?_
                  refine And.intro (ob_indexAddr rfl (wt_none rfl) (ev_dep (j := 0) (by kernel_rfl) rfl rfl) (ev_dep (j := 1) (by kernel_rfl) rfl rfl) (fun _ _ _ hx hy => ⟨_, by rw [hx, hy]; exact index3 (k := j) Tryz.underlying29 (by kernel_rfl) hlte5 _, rfl⟩)) ?_
                  refine And.intro (ob_load rfl (wt_none rfl) (ev_dep (j := 2) (by kernel_rfl) rfl rfl) (fun w2 hb => load3 Tryz.underlying45 rfl (by kernel_rfl) ((hb.cell (World.block_lt_of_cell? wr _ ze50)).trans ze50) ((hb.cell (World.block_lt_of_cell? wr _ ze51)).trans ze51) ((hb.cell (World.block_lt_of_cell? wr _ ze52)).trans ze52)) (fun _ _ => rfl)) ?_
                  refine And.intro (ob_move rfl (wt_none rfl) (ev_far rfl rfl) (fun _ _ h => h)) ?_
                  refine And.intro (ob_move rfl (wt_none rfl) (ev_far rfl rfl) (fun _ _ h => h)) ?_
                  refine And.intro (ob_indexAddr rfl (wt_none rfl) (ev_dep (j := 4) (by kernel_rfl) rfl rfl) (ev_dep (j := 5) (by kernel_rfl) rfl rfl) (fun _ _ _ hx hy => ⟨_, by rw [hx, hy]; exact index3 (k := i) Tryz.underlying29 (by kernel_rfl) hlte6 _, rfl⟩)) ?_
                  refine And.intro (ob_load rfl (wt_none rfl) (ev_dep (j := 6) (by kernel_rfl) rfl rfl) (fun w2 hb => load3 Tryz.underlying45 rfl (by kernel_rfl) ((hb.cell (World.block_lt_of_cell? wr _ ze60)).trans ze60) ((hb.cell (World.block_lt_of_cell? wr _ ze61)).trans ze61) ((hb.cell (World.block_lt_of_cell? wr _ ze62)).trans ze62)) (fun _ _ => rfl)) ?_
                  refine And.intro (ob_call2 rfl Tryz.func19 (by kernel_rfl) (wt_none rfl) (ev_dep (j := 3) (by kernel_rfl) rfl rfl) (ev_dep (j := 7) (by kernel_rfl) rfl rfl) (fun w2 u0 u1 hb h0 h1 => by obtain rfl := h0; obtain rfl := h1; exact (qcmp_any _ (x) _ (y) _ _ (ze5.drew.below hb) (ze6.drew.below hb) (lx.mono (by decide)) (ly.mono (by decide)) rfl).mono fun e w3 h => RetV.pd h)) ?_
                  refine And.intro (ob_bin rfl (wt_none rfl) (ev_dep (j := 8) (by kernel_rfl) rfl rfl) (ev_const _) (fun _ _ _ hx hy => ⟨.bool (decide (0 < (ordq (x) (y)))), by rw [hx, hy]; exact bin_gtr_int _ _ _ _ _, rfl⟩)) ?_
                  trivial
                case done35 =>
                  refine fun w22 hb22 v0 h0 v1 h1 v2 h2 v3 h3 v4 h4 v5 h5 v6 h6 v7 h7 v8 h8 v9 h9 b hbf => ?_
                  obtain rfl := h0; obtain rfl := h1; obtain rfl := h2; obtain rfl := h3; obtain rfl := h4; obtain rfl := h5; obtain rfl := h6; obtain rfl := h7; obtain rfl := h8; obtain rfl := h9
                  simp only [Act.put, List.setIfInBounds_toArray, List.set_cons_zero, List.set_cons_succ] at hbf
                  subst hbf
                  replace BA7 := BA7.below hb22
                  replace hV := hV.below hb22
                  replace hU := hU.below hb22
                  replace hS := hS.below hb22
                  replace hX := hX.below hb22
                  replace bb := bb.trans (hb22.mono bb.size)
                  have hsz22 := bb.size
                  replace hby := hby.trans (hb22.mono hby.size)
                  refine any_done (by kernel_rfl) ?_
                  go_wp2
                  go_roundw
                  case rel => exact ⟨j + 1, j, by omega, HI2, hby, rfl, by go_num⟩
                  case measure => simp [RowKit.intOf]; omega
              · have o2 : ¬ 0 < ordq x y := fun h => c2 (ordq_pos.1 h)
                have HI2 : Hid (i = bestq p (j + 1)) := by have e := HI.out; have hy := HYI.out; rw [e] at hy; show _ = _; rw [bestq_no HXJ.out hy c2]; exact e
                clear c2
                go_upto_region 12 with (fail)
                refine flow 10 [Pd.eq (.slice (some ⟨gU_, oU_, none⟩) p.length cU), Pd.eq (.int .i64 (j : Int)), Pd.eq (.pointer (some ⟨gU_, oU_ + j * 3, none⟩)), Pd.eq (.agg #[.bool (ngB (x).num), .slice Ae5 (digs 10000 (x).num.natAbs).length ce5, .slice De5 (digs 10000 (x).den).length ee5]), Pd.eq (.slice (some ⟨gU_, oU_, none⟩) p.length cU), Pd.eq (.int .i64 (i : Int)), Pd.eq (.pointer (some ⟨gU_, oU_ + i * 3, none⟩)), Pd.eq (.agg #[.bool (ngB (y).num), .slice Ae6 (digs 10000 (y).num.natAbs).length ce6, .slice De6 (digs 10000 (y).den).length ee6]), Pd.eq (.int .i64 (ordq (x) (y))), Pd.eq (.bool (decide (0 < (ordq (x) (y)))))] (by kernel_rfl) (by kernel_rfl) ?ob36 ?done36
                case ob36 =>
                  refine And.intro (ob_move rfl (wt_none rfl) (ev_far rfl rfl) (fun _ _ h => h)) ?_
                  refine And.intro (ob_move rfl (wt_none rfl) (ev_far rfl rfl) (fun _ _ h => h)) ?_
                  refine And.intro (ob_indexAddr rfl (wt_none rfl) (ev_dep (j := 0) (by kernel_rfl) rfl rfl) (ev_dep (j := 1) (by kernel_rfl) rfl rfl) (fun _ _ _ hx hy => ⟨_, by rw [hx, hy]; exact index3 (k := j) Tryz.underlying29 (by kernel_rfl) hlte5 _, rfl⟩)) ?_
                  refine And.intro (ob_load rfl (wt_none rfl) (ev_dep (j := 2) (by kernel_rfl) rfl rfl) (fun w2 hb => load3 Tryz.underlying45 rfl (by kernel_rfl) ((hb.cell (World.block_lt_of_cell? wr _ ze50)).trans ze50) ((hb.cell (World.block_lt_of_cell? wr _ ze51)).trans ze51) ((hb.cell (World.block_lt_of_cell? wr _ ze52)).trans ze52)) (fun _ _ => rfl)) ?_
                  refine And.intro (ob_move rfl (wt_none rfl) (ev_far rfl rfl) (fun _ _ h => h)) ?_
                  refine And.intro (ob_move rfl (wt_none rfl) (ev_far rfl rfl) (fun _ _ h => h)) ?_
                  refine And.intro (ob_indexAddr rfl (wt_none rfl) (ev_dep (j := 4) (by kernel_rfl) rfl rfl) (ev_dep (j := 5) (by kernel_rfl) rfl rfl) (fun _ _ _ hx hy => ⟨_, by rw [hx, hy]; exact index3 (k := i) Tryz.underlying29 (by kernel_rfl) hlte6 _, rfl⟩)) ?_
                  refine And.intro (ob_load rfl (wt_none rfl) (ev_dep (j := 6) (by kernel_rfl) rfl rfl) (fun w2 hb => load3 Tryz.underlying45 rfl (by kernel_rfl) ((hb.cell (World.block_lt_of_cell? wr _ ze60)).trans ze60) ((hb.cell (World.block_lt_of_cell? wr _ ze61)).trans ze61) ((hb.cell (World.block_lt_of_cell? wr _ ze62)).trans ze62)) (fun _ _ => rfl)) ?_
                  refine And.intro (ob_call2 rfl Tryz.func19 (by kernel_rfl) (wt_none rfl) (ev_dep (j := 3) (by kernel_rfl) rfl rfl) (ev_dep (j := 7) (by kernel_rfl) rfl rfl) (fun w2 u0 u1 hb h0 h1 => by obtain rfl := h0; obtain rfl := h1; exact (qcmp_any _ (x) _ (y) _ _ (ze5.drew.below hb) (ze6.drew.below hb) (lx.mono (by decide)) (ly.mono (by decide)) rfl).mono fun e w3 h => RetV.pd h)) ?_
                  refine And.intro (ob_bin rfl (wt_none rfl) (ev_dep (j := 8) (by kernel_rfl) rfl rfl) (ev_const _) (fun _ _ _ hx hy => ⟨.bool (decide (0 < (ordq (x) (y)))), by rw [hx, hy]; exact bin_gtr_int _ _ _ _ _, rfl⟩)) ?_
                  trivial
                case done36 =>
                  refine fun w22 hb22 v0 h0 v1 h1 v2 h2 v3 h3 v4 h4 v5 h5 v6 h6 v7 h7 v8 h8 v9 h9 b hbf => ?_
                  obtain rfl := h0; obtain rfl := h1; obtain rfl := h2; obtain rfl := h3; obtain rfl := h4; obtain rfl := h5; obtain rfl := h6; obtain rfl := h7; obtain rfl := h8; obtain rfl := h9
                  simp only [Act.put, List.setIfInBounds_toArray, List.set_cons_zero, List.set_cons_succ] at hbf
                  subst hbf
                  replace BA7 := BA7.below hb22
                  replace hV := hV.below hb22
                  replace hU := hU.below hb22
                  replace hS := hS.below hb22
                  replace hX := hX.below hb22
                  replace bb := bb.trans (hb22.mono bb.size)
                  have hsz22 := bb.size
                  replace hby := hby.trans (hb22.mono hby.size)
                  refine any_done (by kernel_rfl) ?_
                  go_wp2
                  go_roundw
                  case rel => exact ⟨j + 1, i, by omega, HI2, hby, rfl, by go_num⟩
                  case measure => simp [RowKit.intOf]; omega
            · obtain rfl : i = T := by rw [HI.out, HT.out, topq, show j = p.length by omega]
              obtain ⟨SB, hSB⟩ : ∃ SB, SB = decide (p = q) := ⟨_, rfl⟩
              obtain ⟨IT, hIT⟩ : ∃ IT : Int, IT = if p = q then 1 else 0 := ⟨_, rfl⟩
              have HSB := Lib.hid hSB
              have HIT := Lib.hid hIT
              have HIS : Hid ((IT == 1) = SB) := by
                show _ = _
                rw [hIT, hSB]
                by_cases c : p = q
                · rw [if_pos c, decide_eq_true c]; rfl
                · rw [if_neg c, decide_eq_false c]; rfl
              have HLL : Hid (p.length ≤ 200 ∧ ∀ x ∈ p, lenQ x 3) := ⟨by omega, HL3.out.2.1⟩
              have HLS : Hid (p.length ≤ 8 ∧ (∀ x ∈ p, lenQ x 3) ∧ ∀ x ∈ p, lenQ x 3) := ⟨by omega, HL3.out.2.1, HL3.out.2.1⟩
              have HQL : Hid (∀ x ∈ q, lenQ x 30000) := fun x hx => (HQ1.out x hx).mono (by decide)
              clear hSB hIT HI HT
              go_upto_region 14 with (fail)
              refine flowp 10 [Pd.eq (.int .i64 (i : Int)), Pd.eq (.int .i64 (i : Int)), Pd.eq (.bool false), Pd.eq (.bool false), Pd.eq (.bool TB), Pd.eq (.slice AU p.length cU), Pd.eq (.int .i64 ((p.length : Nat) : Int)), Pd.eq (.bool TB), Pd.eq (.bool false), Pd.eq (.bool false)] (by kernel_rfl) ?ob37 ?done37
              case ob37 =>
                refine And.intro (ob_move rfl (wt_none rfl) (ev_far rfl rfl) (fun _ _ h => h)) ?_
                refine And.intro (ob_move rfl (wt_none rfl) (ev_far rfl rfl) (fun _ _ h => h)) ?_
                refine And.intro (ob_bin rfl (wt_none rfl) (ev_dep (j := 0) (by kernel_rfl) rfl rfl) (ev_dep (j := 1) (by kernel_rfl) rfl rfl) (fun _ _ _ hx hy => ⟨.bool false, by rw [hx, hy, bin_neq_int, bne_self_eq_false], rfl⟩)) ?_
                refine And.intro (ob_move rfl (wt_none rfl) (ev_dep (j := 2) (by kernel_rfl) rfl rfl) (fun _ _ h => h)) ?_
                refine And.intro (ob_move rfl (wt_dep (c := false) (b := false) (g := 3) rfl (by kernel_rfl) rfl rfl rfl (by exact fun _ _ h => h)) (ev_far rfl rfl) (fun _ _ h => h)) ?_
                refine And.intro (ob_move rfl (wt_dep (c := false) (b := false) (g := 3) rfl (by kernel_rfl) rfl rfl rfl (by exact fun _ _ h => h)) (ev_far rfl rfl) (fun _ _ h => h)) ?_
                refine And.intro (ob_len rfl (wt_dep (c := false) (b := false) (g := 3) rfl (by kernel_rfl) rfl rfl rfl (by exact fun _ _ h => h)) (ev_dep (j := 5) (by kernel_rfl) rfl rfl) (fun _ _ hx => ⟨_, by rw [hx]; exact len_slice Tryz.underlying29 _ _ _ _, rfl⟩)) ?_
                refine And.intro (ob_bin rfl (wt_dep (c := false) (b := false) (g := 3) rfl (by kernel_rfl) rfl rfl rfl (by exact fun _ _ h => h)) (ev_dep (j := 6) (by kernel_rfl) rfl rfl) (ev_const _) (fun _ _ _ hx hy => ⟨.bool TB, by rw [hx, hy, bin_gtr_int, HTB2.out], rfl⟩)) ?_
                refine And.intro (ob_bin rfl (wt_dep (c := false) (b := false) (g := 3) rfl (by kernel_rfl) rfl rfl rfl (by exact fun _ _ h => h)) (ev_dep (j := 4) (by kernel_rfl) rfl rfl) (ev_dep (j := 7) (by kernel_rfl) rfl rfl) (fun _ _ _ hx hy => ⟨.bool false, by rw [hx, hy, bin_neq_bool _ _ _ _ Tryz.underlying4, beq_self_eq_true, Bool.not_true], rfl⟩)) ?_
                refine And.intro (ob_pick (b := false) rfl (wt_none rfl) (ev_dep (j := 3) (by kernel_rfl) rfl rfl) (ev_dep (j := 8) (by kernel_rfl) rfl rfl) (fun _ _ h => h)) ?_
                trivial
              case done37 =>
                refine fun w22 hb22 v0 h0 v1 h1 v2 h2 v3 h3 v4 h4 v5 h5 v6 h6 v7 h7 v8 h8 v9 h9 b hbf => ?_
                obtain rfl := h0; obtain rfl := h1; obtain rfl := h2; obtain rfl := h3; obtain rfl := h4; obtain rfl := h5; obtain rfl := h6; obtain rfl := h7; obtain rfl := h8; obtain rfl := h9
                simp only [Act.put, List.setIfInBounds_toArray, List.set_cons_zero, List.set_cons_succ] at hbf
                subst hbf
                replace BA7 := BA7.below hb22
                replace hV := hV.below hb22
                replace hU := hU.below hb22
                replace hS := hS.below hb22
                replace hX := hX.below hb22
                replace bb := bb.trans (hb22.mono bb.size)
                have hsz22 := bb.size
                replace hby := hby.trans (hb22.mono hby.size)
                refine ops_done ?_
                go_upto_region 16 with (fail)
                refine flowp 20 [Pd.eq (.slice AV p.length cV), Pd.eq (.int .i64 (k : Int)), Pd.eq (.int .i64 (k : Int)), Pd.eq (.bool false), Pd.eq (.bool false), Pd.eq (.slice AV p.length cV), Pd.eq (.slice AS q.length cS), Pd.eq (.bool SB), Pd.eq (.slice AV p.length cV), Pd.eq (.slice AX q.length cX), Pd.eq (.int .i64 IT), Pd.eq (.bool SB), Pd.eq (.bool false), Pd.eq (.bool false), Pd.eq (.bool false), Pd.eq (.slice AV p.length cV), Pd.eq (.slice AV p.length cV), Pd.eq (.bool true), Pd.eq (.bool false), Pd.eq (.bool false)] (by kernel_rfl) ?ob38 ?done38
                case ob38 =>
                  refine And.intro (ob_move rfl (wt_none rfl) (ev_far rfl rfl) (fun _ _ h => h)) ?_
                  refine And.intro (ob_call1 rfl Tryz.func20 (by kernel_rfl) (wt_none rfl) (ev_dep (j := 0) (by kernel_rfl) rfl rfl) (fun w2 u0 hb h0 => by obtain rfl := h0; exact (flead_any _ p (k : Int) _ (hV.below hb) HLL.out HKI.out).mono fun e w3 h => RetV.pd h)) ?_
                  refine And.intro (ob_move rfl (wt_none rfl) (ev_far rfl rfl) (fun _ _ h => h)) ?_
                  refine And.intro (ob_bin rfl (wt_none rfl) (ev_dep (j := 1) (by kernel_rfl) rfl rfl) (ev_dep (j := 2) (by kernel_rfl) rfl rfl) (fun _ _ _ hx hy => ⟨.bool false, by rw [hx, hy, bin_neq_int, bne_self_eq_false], rfl⟩)) ?_
                  refine And.intro (ob_move rfl (wt_none rfl) (ev_dep (j := 3) (by kernel_rfl) rfl rfl) (fun _ _ h => h)) ?_
                  refine And.intro (ob_move rfl (wt_dep (c := false) (b := false) (g := 4) rfl (by kernel_rfl) rfl rfl rfl (by exact fun _ _ h => h)) (ev_far rfl rfl) (fun _ _ h => h)) ?_
                  refine And.intro (ob_move rfl (wt_dep (c := false) (b := false) (g := 4) rfl (by kernel_rfl) rfl rfl rfl (by exact fun _ _ h => h)) (ev_far rfl rfl) (fun _ _ h => h)) ?_
                  refine And.intro (ob_call2 rfl Tryz.func21 (by kernel_rfl) (wt_dep (c := false) (b := false) (g := 4) rfl (by kernel_rfl) rfl rfl rfl (by exact fun _ _ h => h)) (ev_dep (j := 5) (by kernel_rfl) rfl rfl) (ev_dep (j := 6) (by kernel_rfl) rfl rfl) (fun w2 u0 u1 hb h0 h1 => by obtain rfl := h0; obtain rfl := h1; exact (fvsame_any _ _ p q SB _ (hV.below hb) (hS.below hb) HL3.out HSB.out).mono fun e w3 h => RetV.pd h)) ?_
                  refine And.intro (ob_move rfl (wt_dep (c := false) (b := false) (g := 4) rfl (by kernel_rfl) rfl rfl rfl (by exact fun _ _ h => h)) (ev_far rfl rfl) (fun _ _ h => h)) ?_
                  refine And.intro (ob_move rfl (wt_dep (c := false) (b := false) (g := 4) rfl (by kernel_rfl) rfl rfl rfl (by exact fun _ _ h => h)) (ev_far rfl rfl) (fun _ _ h => h)) ?_
                  refine And.intro (ob_call2 rfl Tryz.func9 (by kernel_rfl) (wt_dep (c := false) (b := false) (g := 4) rfl (by kernel_rfl) rfl rfl rfl (by exact fun _ _ h => h)) (ev_dep (j := 8) (by kernel_rfl) rfl rfl) (ev_dep (j := 9) (by kernel_rfl) rfl rfl) (fun w2 u0 u1 hb h0 h1 => by obtain rfl := h0; obtain rfl := h1; exact (is_any _ _ p q IT _ (hV.below hb) (hX.below hb) HQL.out HIT.out).mono fun e w3 h => RetV.pd h)) ?_
                  refine And.intro (ob_bin rfl (wt_dep (c := false) (b := false) (g := 4) rfl (by kernel_rfl) rfl rfl rfl (by exact fun _ _ h => h)) (ev_dep (j := 10) (by kernel_rfl) rfl rfl) (ev_const _) (fun _ _ _ hx hy => ⟨.bool SB, by rw [hx, hy, bin_eql_int, HIS.out], rfl⟩)) ?_
                  refine And.intro (ob_bin rfl (wt_dep (c := false) (b := false) (g := 4) rfl (by kernel_rfl) rfl rfl rfl (by exact fun _ _ h => h)) (ev_dep (j := 7) (by kernel_rfl) rfl rfl) (ev_dep (j := 11) (by kernel_rfl) rfl rfl) (fun _ _ _ hx hy => ⟨.bool false, by rw [hx, hy, bin_neq_bool _ _ _ _ Tryz.underlying4, beq_self_eq_true, Bool.not_true], rfl⟩)) ?_
                  refine And.intro (ob_pick (b := false) rfl (wt_none rfl) (ev_dep (j := 4) (by kernel_rfl) rfl rfl) (ev_dep (j := 12) (by kernel_rfl) rfl rfl) (fun _ _ h => h)) ?_
                  refine And.intro (ob_move rfl (wt_none rfl) (ev_dep (j := 13) (by kernel_rfl) rfl rfl) (fun _ _ h => h)) ?_
                  refine And.intro (ob_move rfl (wt_dep (c := false) (b := false) (g := 14) rfl (by kernel_rfl) rfl rfl rfl (by exact fun _ _ h => h)) (ev_far rfl rfl) (fun _ _ h => h)) ?_
                  refine And.intro (ob_move rfl (wt_dep (c := false) (b := false) (g := 14) rfl (by kernel_rfl) rfl rfl rfl (by exact fun _ _ h => h)) (ev_far rfl rfl) (fun _ _ h => h)) ?_
                  refine And.intro (ob_call2 rfl Tryz.func21 (by kernel_rfl) (wt_dep (c := false) (b := false) (g := 14) rfl (by kernel_rfl) rfl rfl rfl (by exact fun _ _ h => h)) (ev_dep (j := 15) (by kernel_rfl) rfl rfl) (ev_dep (j := 16) (by kernel_rfl) rfl rfl) (fun w2 u0 u1 hb h0 h1 => by obtain rfl := h0; obtain rfl := h1; exact (fvsame_any _ _ p p true _ (hV.below hb) (hV.below hb) HLS.out (decide_eq_true rfl).symm).mono fun e w3 h => RetV.pd h)) ?_
                  refine And.intro (ob_un rfl (wt_dep (c := false) (b := false) (g := 14) rfl (by kernel_rfl) rfl rfl rfl (by exact fun _ _ h => h)) (ev_dep (j := 17) (by kernel_rfl) rfl rfl) (fun _ => un_not _ _) (fun _ => rfl)) ?_
                  refine And.intro (ob_pick (b := false) rfl (wt_none rfl) (ev_dep (j := 14) (by kernel_rfl) rfl rfl) (ev_dep (j := 18) (by kernel_rfl) rfl rfl) (fun _ _ h => h)) ?_
                  trivial
                case done38 =>
                  refine fun w23 hb23 v0 h0 v1 h1 v2 h2 v3 h3 v4 h4 v5 h5 v6 h6 v7 h7 v8 h8 v9 h9 v10 h10 v11 h11 v12 h12 v13 h13 v14 h14 v15 h15 v16 h16 v17 h17 v18 h18 v19 h19 b hbf => ?_
                  obtain rfl := h0; obtain rfl := h1; obtain rfl := h2; obtain rfl := h3; obtain rfl := h4; obtain rfl := h5; obtain rfl := h6; obtain rfl := h7; obtain rfl := h8; obtain rfl := h9; obtain rfl := h10; obtain rfl := h11; obtain rfl := h12; obtain rfl := h13; obtain rfl := h14; obtain rfl := h15; obtain rfl := h16; obtain rfl := h17; obtain rfl := h18; obtain rfl := h19
                  simp only [Act.put, List.setIfInBounds_toArray, List.set_cons_zero, List.set_cons_succ] at hbf
                  subst hbf
                  replace BA7 := BA7.below hb23
                  replace hV := hV.below hb23
                  replace hU := hU.below hb23
                  replace hS := hS.below hb23
                  replace hX := hX.below hb23
                  replace bb := bb.trans (hb23.mono bb.size)
                  have hsz23 := bb.size
                  replace hby := hby.trans (hb23.mono hby.size)
                  refine ops_done ?_
                  have hE := HE.out
                  have heb : (((p.length : Nat) : Int) == ((q.length : Nat) : Int)) = false := by rw [beq_eq_false_iff_ne]; omega
                  clear hE
                  go_upto_region 19 with (fail)
                  refine flowp 6 [Pd.eq (.int .i64 8), Pd.eq (.bool true), Pd.eq (.bool true), Pd.eq (.bool true), Pd.eq (.bool true), Pd.eq (.bool true)] (by kernel_rfl) ?ob39 ?done39
                  case ob39 =>
                    refine And.intro (ob_move rfl (wt_none rfl) (ev_far rfl rfl) (fun _ _ h => h)) ?_
                    refine And.intro (ob_bin rfl (wt_none rfl) (ev_dep (j := 0) (by kernel_rfl) rfl rfl) (ev_const _) (fun _ _ _ hx hy => ⟨.bool true, by rw [hx, hy, bin_eql_int]; rfl, rfl⟩)) ?_
                    refine And.intro (ob_move rfl (wt_none rfl) (ev_dep (j := 1) (by kernel_rfl) rfl rfl) (fun _ _ h => h)) ?_
                    refine And.intro (ob_call0 rfl Tryz.func13 (by kernel_rfl) (wt_dep (c := true) (b := true) (g := 2) rfl (by kernel_rfl) rfl rfl rfl (by exact fun _ _ h => h)) (fun w2 hb => (works11_any _).mono fun e w3 h => RetV.pd h)) ?_
                    refine And.intro (ob_pick (b := true) rfl (wt_none rfl) (ev_dep (j := 2) (by kernel_rfl) rfl rfl) (ev_dep (j := 3) (by kernel_rfl) rfl rfl) (fun _ _ h => h)) ?_
                    refine And.intro (ob_assign rfl (wt_none rfl) (ev_dep (j := 4) (by kernel_rfl) rfl rfl) (fun _ _ h => h)) ?_
                    trivial
                  case done39 =>
                    refine fun w24 hb24 v0 h0 v1 h1 v2 h2 v3 h3 v4 h4 v5 h5 b hbf => ?_
                    obtain rfl := h0; obtain rfl := h1; obtain rfl := h2; obtain rfl := h3; obtain rfl := h4; obtain rfl := h5
                    simp only [Act.put, List.setIfInBounds_toArray, List.set_cons_zero, List.set_cons_succ] at hbf
                    subst hbf
                    replace BA7 := BA7.below hb24
                    replace hV := hV.below hb24
                    replace hU := hU.below hb24
                    replace hS := hS.below hb24
                    replace hX := hX.below hb24
                    replace bb := bb.trans (hb24.mono bb.size)
                    have hsz24 := bb.size
                    replace hby := hby.trans (hb24.mono hby.size)
                    refine ops_done ?_
                    go_wp2
                    go_ret
                    exact ⟨rfl, bb⟩
set_option maxRecDepth 100000 in
theorem lifted (os : Os) (started : os.Started) (H : Type) (enc : TypeId × Value → H) :
    ReturnsInHanded {} Tryz.checked os 4 .any (Rows.vectDotsSpec.pre6 enc Tryz.prog Tryz.f4 Rows.vectDotsRow.domain false) (Rows.vectDotsSpec.post enc Tryz.prog Tryz.f4 false true false false) := by
  refine returnsInHanded_of_change (C := Tryz.checked) own started (by kernel_rfl) Tryz.func4
    (ChangeSpec.witness6 (enc := enc) (C := Tryz.checked) false ⟨#[], #[.slice none 0 0, .slice none 0 0], []⟩ 8 (by kernel_rfl) (by kernel_rfl) (by kernel_rfl) (by kernel_rfl)) ?_
  intro W base args ds gs before hval0 hW hcnd _
  have hval : ∀ (j : Nat) t v, Tryz.f4.params[j]? = some t → args[j]? = some v → Value.okWide Tryz.prog W .any base t v := hval0
  have hW' := hW
  obtain ⟨p, q, hA0, hV, rfl, hfz, hnd⟩ := hW
  have hA : DataW.TrodAll enc Tryz.prog W 0 (fun _ => true) true Tryz.f4.params.toList args.toList ds p := hA0
  rw [Tryz.params4] at hA hval
  obtain ⟨v0, vs0, d0, ds0, p0, q0, hargs, rfl, rfl, t0, r0⟩ := trodAll_cons hA
  obtain ⟨v1, vs1, d1, ds1, p1, q1, rfl, rfl, rfl, t1, r1⟩ := trodAll_cons r0
  obtain ⟨rfl, rfl, rfl⟩ := trodAll_nil r1
  obtain rfl : args = #[v0, v1] := by cases args; simp_all
  obtain ⟨rfl, rfl⟩ := trodVars_none hV
  have hs0 := arg_qs Tryz.underlying22 Tryz.underlying28 (by kernel_rfl) (by kernel_rfl) Tryz.underlying26 (by kernel_rfl) Tryz.underlying4 Tryz.underlying24 Tryz.underlying24 Tryz.underlying63 cells_u (hval 0 22 v0 rfl rfl) t0
  have hs1 := arg_qs Tryz.underlying22 Tryz.underlying28 (by kernel_rfl) (by kernel_rfl) Tryz.underlying26 (by kernel_rfl) Tryz.underlying4 Tryz.underlying24 Tryz.underlying24 Tryz.underlying63 cells_u (hval 1 22 v1 rfl rfl) t1
  clear hA0 hval0
  simp only [List.append_nil] at hW'
  have hlt0 : ∀ x ∈ p0, x.block < W.heap.size := fun x hx => hW'.lt x (List.mem_append_left _ hx)
  have hlt1 : ∀ x ∈ p1, x.block < W.heap.size := fun x hx => hW'.lt x (List.mem_append_right _ (hx))
  refine (walk v0 v1 W hs0 hs1).mono fun e W' ⟨he, hb⟩ => ?_
  subst he
  have s0 := Below.trod laidOut (by kernel_rfl) (of_decide_eq_true (by kernel_rfl)) t0 hb hlt0
  have s1 := Below.trod laidOut (by kernel_rfl) (of_decide_eq_true (by kernel_rfl)) t1 hb hlt1
  exact ⟨_, rfl, _, _, _, [] ++ [], _, [], hW', trodAll_cons_mk (shut_bool Tryz.underlying4 _) trodAll_mk0, trodAll_cons_mk s0 (trodAll_cons_mk s1 (trodAll_mk0)), rfl, hb.frame _, fun h => by cases h⟩
theorem over : Rows.vectDotsRow.holds Tryz.pinned (OpenSpec.ofChange Rows.vectDotsSpec) :=
  OpenClaim.holds_of_wide 4 Tryz.f4 rfl rfl rfl rfl rfl rfl rfl ⟨rfl, rfl, rfl, rfl, rfl⟩ rfl rfl rfl rfl rfl (by kernel_rfl) Tryz.func4 (by kernel_rfl)
    (of_decide_eq_true (by kernel_rfl)) (by unfold Func.isWrapper; first | (rw [if_pos (by decide +kernel)]; kernel_rfl) | (rw [if_neg (by decide +kernel)]; exact ⟨rfl, rfl⟩))
    (fun os started H enc _ => lifted os started H enc)
/-- The statement. -/
theorem proved : Rows.VectDotsSaid := over
end Go.Proofs.YtodpjmbclmlieaaGreat.vectDots
