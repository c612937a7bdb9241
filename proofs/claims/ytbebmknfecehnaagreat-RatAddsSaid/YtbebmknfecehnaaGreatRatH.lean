/- The document's Same and May of any fractions that came in. Condition: as each says. -/
import Derived.Test.YtbebmknfecehnaaGreatRatD
import Derived.Test.YtbebmknfecehnaaGreatRatG
namespace Go.Proofs.YtbebmknfecehnaaGreat.rat
open Go.RowKit Go.Proofs.YtbebmknfecehnaaGreat.num Go.Proofs.YtbebmknfecehnaaGreat.mem Go.Proofs.YtbebmknfecehnaaGreat.nat Go.Proofs.YtbebmknfecehnaaGreat.txt Go.Proofs.YtbebmknfecehnaaGreat.str Go.Proofs.YtbebmknfecehnaaGreat.flow Go.Proofs.YtbebmknfecehnaaGreat.whl
set_option linter.unusedVariables false
set_option maxHeartbeats 1600000 in
set_option maxRecDepth 100000 in
theorem qsamez_any (b0 b1 : Bool) (u0 t0 u1 t1 : Value) (z0 z1 : Int) (d0 d1 : Nat) (b : Bool) (w : World) (hz0 : IsZ w (.agg #[.bool b0, u0]) z0) (hd0 : IsS w .u64 t0 (digs 4294967296 d0)) (hz1 : IsZ w (.agg #[.bool b1, u1]) z1) (hd1 : IsS w .u64 t1 (digs 4294967296 d1)) (hb : b = decide (z0 = z1 ∧ d0 = d1)) :
    Calls Tryz.prog 8 #[.agg #[.bool b0, u0, t0], .agg #[.bool b1, u1, t1]] w (RetV (.bool b) w) := by
  by_cases hn : z0 = z1
  · have HB : Hid (b = decide (d0 = d1)) := by show _ = _; rw [hb, decide_eq_decide]; exact ⟨fun h => h.2, fun h => ⟨hn, h⟩⟩
    clear hb
    have HN := Lib.hid hn
    clear hn
    go_enter Tryz.func8, Tryz.ntmps8
    go_upto_region 1 with (fail)
    obtain ⟨wx, hwx, bb, B0, B1, hsz⟩ := vars2 w 27 27 #[.bool b0, u0, t0] #[.bool b1, u1, t1]
    rw [hwx]
    clear hwx
    have k0d := hd0.below bb
    have k0z := hz0.below bb
    have k1d := hd1.below bb
    have k1z := hz1.below bb
    refine flowp 13 [Pd.eq (.pointer (some ⟨w.heap.size, 0, none⟩)), Pd.eq (.agg #[.bool b0, u0]), Pd.eq (.pointer (some ⟨w.heap.size + 1, 0, none⟩)), Pd.eq (.agg #[.bool b1, u1]), Pd.eq (.bool true), Pd.eq (.bool true), Pd.eq (.pointer (some ⟨w.heap.size, 2, none⟩)), Pd.eq (t0), Pd.eq (.pointer (some ⟨w.heap.size + 1, 2, none⟩)), Pd.eq (t1), Pd.eq (.bool b), Pd.eq (.bool b), Pd.eq (.bool b)] (by kernel_rfl) ?ob1 ?done1
    case ob1 =>
      refine And.intro (ob_fieldAddr rfl (wt_none rfl) (ev_far rfl rfl) (fun _ => by kernel_rfl) (fun _ => rfl)) ?_
      refine And.intro (ob_load rfl (wt_none rfl) (ev_dep (j := 0) (by kernel_rfl) rfl rfl) (fun w2 hb => run_loadPart Tryz.underlying25 rfl (by kernel_rfl) (B0.below hb) rfl) (fun _ _ => rfl)) ?_
      refine And.intro (ob_fieldAddr rfl (wt_none rfl) (ev_far rfl rfl) (fun _ => by kernel_rfl) (fun _ => rfl)) ?_
      refine And.intro (ob_load rfl (wt_none rfl) (ev_dep (j := 2) (by kernel_rfl) rfl rfl) (fun w2 hb => run_loadPart Tryz.underlying25 rfl (by kernel_rfl) (B1.below hb) rfl) (fun _ _ => rfl)) ?_
      refine And.intro (ob_call2 rfl Tryz.func35 (by kernel_rfl) (wt_none rfl) (ev_dep (j := 1) (by kernel_rfl) rfl rfl) (ev_dep (j := 3) (by kernel_rfl) rfl rfl) (fun w2 u0 u1 hb h0 h1 => by obtain rfl := h0; obtain rfl := h1; exact (zsame_any _ z0 _ z1 true _ (k0z.below hb) (k1z.below hb) (decide_eq_true HN.out).symm).mono fun e w3 h => RetV.pd h)) ?_
      refine And.intro (ob_move rfl (wt_none rfl) (ev_dep (j := 4) (by kernel_rfl) rfl rfl) (fun _ _ h => h)) ?_
      refine And.intro (ob_fieldAddr rfl (wt_dep (c := true) (b := true) (g := 5) rfl (by kernel_rfl) rfl rfl rfl (by exact fun _ _ h => h)) (ev_far rfl rfl) (fun _ => by kernel_rfl) (fun _ => rfl)) ?_
      refine And.intro (ob_load rfl (wt_dep (c := true) (b := true) (g := 5) rfl (by kernel_rfl) rfl rfl rfl (by exact fun _ _ h => h)) (ev_dep (j := 6) (by kernel_rfl) rfl rfl) (fun w2 hb => run_load1 Tryz.underlying23 rfl ((B0.below hb).cell 2)) (fun _ _ => rfl)) ?_
      refine And.intro (ob_fieldAddr rfl (wt_dep (c := true) (b := true) (g := 5) rfl (by kernel_rfl) rfl rfl rfl (by exact fun _ _ h => h)) (ev_far rfl rfl) (fun _ => by kernel_rfl) (fun _ => rfl)) ?_
      refine And.intro (ob_load rfl (wt_dep (c := true) (b := true) (g := 5) rfl (by kernel_rfl) rfl rfl rfl (by exact fun _ _ h => h)) (ev_dep (j := 8) (by kernel_rfl) rfl rfl) (fun w2 hb => run_load1 Tryz.underlying23 rfl ((B1.below hb).cell 2)) (fun _ _ => rfl)) ?_
      refine And.intro (ob_call2 rfl Tryz.func36 (by kernel_rfl) (wt_dep (c := true) (b := true) (g := 5) rfl (by kernel_rfl) rfl rfl rfl (by exact fun _ _ h => h)) (ev_dep (j := 7) (by kernel_rfl) rfl rfl) (ev_dep (j := 9) (by kernel_rfl) rfl rfl) (fun w2 u0 u1 hb h0 h1 => by obtain rfl := h0; obtain rfl := h1; exact (same_num _ _ d0 d1 b _ (k0d.below hb) (k1d.below hb) HB.out).mono fun e w3 h => RetV.pd h)) ?_
      refine And.intro (ob_pick (b := true) rfl (wt_none rfl) (ev_dep (j := 5) (by kernel_rfl) rfl rfl) (ev_dep (j := 10) (by kernel_rfl) rfl rfl) (fun _ _ h => h)) ?_
      refine And.intro (ob_assign rfl (wt_none rfl) (ev_dep (j := 11) (by kernel_rfl) rfl rfl) (fun _ _ h => h)) ?_
      trivial
    case done1 =>
      refine fun w1 hb1 v0 h0 v1 h1 v2 h2 v3 h3 v4 h4 v5 h5 v6 h6 v7 h7 v8 h8 v9 h9 v10 h10 v11 h11 v12 h12 b hbf => ?_
      obtain rfl := h0; obtain rfl := h1; obtain rfl := h2; obtain rfl := h3; obtain rfl := h4; obtain rfl := h5; obtain rfl := h6; obtain rfl := h7; obtain rfl := h8; obtain rfl := h9; obtain rfl := h10; obtain rfl := h11; obtain rfl := h12
      simp only [Act.put, List.setIfInBounds_toArray, List.set_cons_zero, List.set_cons_succ] at hbf
      subst hbf
      replace B0 := B0.below hb1
      replace k0d := k0d.below hb1
      replace k0z := k0z.below hb1
      replace B1 := B1.below hb1
      replace k1d := k1d.below hb1
      replace k1z := k1z.below hb1
      replace bb := bb.trans (hb1.mono bb.size)
      have hsz1 := bb.size
      refine ops_done ?_
      go_wp2
      go_ret
      exact ⟨rfl, bb⟩
  · obtain rfl : b = false := by rw [hb, decide_eq_false_iff_not]; exact fun h => hn h.1
    clear hb
    have HN := Lib.hid hn
    clear hn
    go_enter Tryz.func8, Tryz.ntmps8
    go_upto_region 1 with (fail)
    obtain ⟨wx, hwx, bb, B0, B1, hsz⟩ := vars2 w 27 27 #[.bool b0, u0, t0] #[.bool b1, u1, t1]
    rw [hwx]
    clear hwx
    have k0d := hd0.below bb
    have k0z := hz0.below bb
    have k1d := hd1.below bb
    have k1z := hz1.below bb
    refine flowp 13 [Pd.eq (.pointer (some ⟨w.heap.size, 0, none⟩)), Pd.eq (.agg #[.bool b0, u0]), Pd.eq (.pointer (some ⟨w.heap.size + 1, 0, none⟩)), Pd.eq (.agg #[.bool b1, u1]), Pd.eq (.bool false), Pd.eq (.bool false), Pd.any, Pd.any, Pd.any, Pd.any, Pd.any, Pd.eq (.bool false), Pd.eq (.bool false)] (by kernel_rfl) ?ob2 ?done2
    case ob2 =>
      refine And.intro (ob_fieldAddr rfl (wt_none rfl) (ev_far rfl rfl) (fun _ => by kernel_rfl) (fun _ => rfl)) ?_
      refine And.intro (ob_load rfl (wt_none rfl) (ev_dep (j := 0) (by kernel_rfl) rfl rfl) (fun w2 hb => run_loadPart Tryz.underlying25 rfl (by kernel_rfl) (B0.below hb) rfl) (fun _ _ => rfl)) ?_
      refine And.intro (ob_fieldAddr rfl (wt_none rfl) (ev_far rfl rfl) (fun _ => by kernel_rfl) (fun _ => rfl)) ?_
      refine And.intro (ob_load rfl (wt_none rfl) (ev_dep (j := 2) (by kernel_rfl) rfl rfl) (fun w2 hb => run_loadPart Tryz.underlying25 rfl (by kernel_rfl) (B1.below hb) rfl) (fun _ _ => rfl)) ?_
      refine And.intro (ob_call2 rfl Tryz.func35 (by kernel_rfl) (wt_none rfl) (ev_dep (j := 1) (by kernel_rfl) rfl rfl) (ev_dep (j := 3) (by kernel_rfl) rfl rfl) (fun w2 u0 u1 hb h0 h1 => by obtain rfl := h0; obtain rfl := h1; exact (zsame_any _ z0 _ z1 false _ (k0z.below hb) (k1z.below hb) (decide_eq_false HN.out).symm).mono fun e w3 h => RetV.pd h)) ?_
      refine And.intro (ob_move rfl (wt_none rfl) (ev_dep (j := 4) (by kernel_rfl) rfl rfl) (fun _ _ h => h)) ?_
      refine And.intro (ob_not (wt_dep (c := false) (b := true) (g := 5) rfl (by kernel_rfl) rfl rfl rfl (by exact fun _ _ h => h)) (fun _ => trivial) rfl) ?_
      refine And.intro (ob_not (wt_dep (c := false) (b := true) (g := 5) rfl (by kernel_rfl) rfl rfl rfl (by exact fun _ _ h => h)) (fun _ => trivial) rfl) ?_
      refine And.intro (ob_not (wt_dep (c := false) (b := true) (g := 5) rfl (by kernel_rfl) rfl rfl rfl (by exact fun _ _ h => h)) (fun _ => trivial) rfl) ?_
      refine And.intro (ob_not (wt_dep (c := false) (b := true) (g := 5) rfl (by kernel_rfl) rfl rfl rfl (by exact fun _ _ h => h)) (fun _ => trivial) rfl) ?_
      refine And.intro (ob_not (wt_dep (c := false) (b := true) (g := 5) rfl (by kernel_rfl) rfl rfl rfl (by exact fun _ _ h => h)) (fun _ => trivial) rfl) ?_
      refine And.intro (ob_pick (b := false) rfl (wt_none rfl) (ev_dep (j := 5) (by kernel_rfl) rfl rfl) (ev_const _) (fun _ _ h => h)) ?_
      refine And.intro (ob_assign rfl (wt_none rfl) (ev_dep (j := 11) (by kernel_rfl) rfl rfl) (fun _ _ h => h)) ?_
      trivial
    case done2 =>
      refine fun w1 hb1 v0 h0 v1 h1 v2 h2 v3 h3 v4 h4 v5 h5 v6 h6 v7 h7 v8 h8 v9 h9 v10 h10 v11 h11 v12 h12 b hbf => ?_
      obtain rfl := h0; obtain rfl := h1; obtain rfl := h2; obtain rfl := h3; obtain rfl := h4; obtain rfl := h5; obtain rfl := h11; obtain rfl := h12
      clear h6
      clear h7
      clear h8
      clear h9
      clear h10
      simp only [Act.put, List.setIfInBounds_toArray, List.set_cons_zero, List.set_cons_succ] at hbf
      subst hbf
      replace B0 := B0.below hb1
      replace k0d := k0d.below hb1
      replace k0z := k0z.below hb1
      replace B1 := B1.below hb1
      replace k1d := k1d.below hb1
      replace k1z := k1z.below hb1
      replace bb := bb.trans (hb1.mono bb.size)
      have hsz1 := bb.size
      refine ops_done ?_
      go_wp2
      go_ret
      exact ⟨rfl, bb⟩

section
open Classical
theorem mayB_val {l : List Nat} (h : mayB l = true) : l = digs 4294967296 (val 4294967296 l) := by
  unfold mayB at h
  rw [decide_eq_true_iff] at h
  rw [← trim_digs (by omega) h.1, h.2]
end
theorem low_same {z : Int} {d : Nat} (hd : d ≠ 0) : ((mkRat z d).num = z ∧ (mkRat z d).den = d) ↔ Nat.gcd z.natAbs d = 1 := by
  constructor
  · rintro ⟨_, h⟩
    rw [mk_den z hd] at h
    have hg : 0 < Nat.gcd z.natAbs d := Nat.gcd_pos_of_pos_right _ (by omega)
    rcases Nat.lt_or_ge 1 (Nat.gcd z.natAbs d) with h1 | h1
    · have := Nat.div_lt_self (n := d) (by omega) h1
      omega
    · omega
  · intro h
    have := Rat.mk_eq_mkRat z d hd h
    rw [← this]
    exact ⟨rfl, rfl⟩
/-- May these be a fraction's parts? -/
noncomputable def mayQ (b : Bool) (l m : List Nat) : Bool := mayB l && (mayB m && (!(((m.length : Nat) : Int) == 0) && (!(b && (((l.length : Nat) : Int) == 0)) && decide (Nat.gcd (val 4294967296 l) (val 4294967296 m) = 1))))

end Go.Proofs.YtbebmknfecehnaaGreat.rat
