/- The document's Same and May of any fractions that came in. Condition: as each says. -/
import Derived.Test.YtbebmknfecehnaaRatD
import Derived.Test.YtbebmknfecehnaaRatG
namespace Go.Proofs.Ytbebmknfecehnaa.rat
open Go.RowKit Go.Proofs.Ytbebmknfecehnaa.num Go.Proofs.Ytbebmknfecehnaa.mem Go.Proofs.Ytbebmknfecehnaa.nat Go.Proofs.Ytbebmknfecehnaa.txt Go.Proofs.Ytbebmknfecehnaa.str Go.Proofs.Ytbebmknfecehnaa.flow Go.Proofs.Ytbebmknfecehnaa.whl
set_option linter.unusedVariables false
set_option maxHeartbeats 1600000 in
set_option maxRecDepth 100000 in
theorem qsamez_any (b0 b1 : Bool) (u0 t0 u1 t1 : Value) (z0 z1 : Int) (d0 d1 : Nat) (b : Bool) (w : World) (hz0 : IsZ w (.agg #[.bool b0, u0]) z0) (hd0 : IsS w .u64 t0 (digs 4294967296 d0)) (hz1 : IsZ w (.agg #[.bool b1, u1]) z1) (hd1 : IsS w .u64 t1 (digs 4294967296 d1)) (hb : b = decide (z0 = z1 ∧ d0 = d1)) :
    Calls Try.prog 12 #[.agg #[.bool b0, u0, t0], .agg #[.bool b1, u1, t1]] w (RetV (.bool b) w) := by
  by_cases hn : z0 = z1
  · have HB : Hid (b = decide (d0 = d1)) := by show _ = _; rw [hb, decide_eq_decide]; exact ⟨fun h => h.2, fun h => ⟨hn, h⟩⟩
    clear hb
    have HN := Lib.hid hn
    clear hn
    go_enter Try.func12, Try.ntmps12
    go_upto_region 1 with (fail)
    obtain ⟨wx, hwx, bb, B0, B1, hsz⟩ := vars2 w 27 27 #[.bool b0, u0, t0] #[.bool b1, u1, t1]
    rw [hwx]
    clear hwx
    have k0d := hd0.below bb
    have k0z := hz0.below bb
    have k1d := hd1.below bb
    have k1z := hz1.below bb
    refine flowp 13 [Pd.eq (.pointer (some ⟨w.heap.size, 0, none⟩)), Pd.eq (.agg #[.bool b0, u0]), Pd.eq (.pointer (some ⟨w.heap.size + 1, 0, none⟩)), Pd.eq (.agg #[.bool b1, u1]), Pd.eq (.bool true), Pd.eq (.bool true), Pd.eq (.pointer (some ⟨w.heap.size, 2, none⟩)), Pd.eq (t0), Pd.eq (.pointer (some ⟨w.heap.size + 1, 2, none⟩)), Pd.eq (t1), Pd.eq (.bool b), Pd.eq (.bool b), Pd.eq (.bool b)] (by kernel_rfl) ?ob1 ?done1
    case ob1 =>
      refine And.intro (ob_fieldAddr rfl (wt_none rfl) (ev_far rfl rfl) (fun _ => by kernel_rfl) (fun _ => rfl)) ?_
      refine And.intro (ob_load rfl (wt_none rfl) (ev_dep (j := 0) (by kernel_rfl) rfl rfl) (fun w2 hb => run_loadPart Try.underlying25 rfl (by kernel_rfl) (B0.below hb) rfl) (fun _ _ => rfl)) ?_
      refine And.intro (ob_fieldAddr rfl (wt_none rfl) (ev_far rfl rfl) (fun _ => by kernel_rfl) (fun _ => rfl)) ?_
      refine And.intro (ob_load rfl (wt_none rfl) (ev_dep (j := 2) (by kernel_rfl) rfl rfl) (fun w2 hb => run_loadPart Try.underlying25 rfl (by kernel_rfl) (B1.below hb) rfl) (fun _ _ => rfl)) ?_
      refine And.intro (ob_call2 rfl Try.func30 (by kernel_rfl) (wt_none rfl) (ev_dep (j := 1) (by kernel_rfl) rfl rfl) (ev_dep (j := 3) (by kernel_rfl) rfl rfl) (fun w2 u0 u1 hb h0 h1 => by obtain rfl := h0; obtain rfl := h1; exact (zsame_any _ z0 _ z1 true _ (k0z.below hb) (k1z.below hb) (decide_eq_true HN.out).symm).mono fun e w3 h => RetV.pd h)) ?_
      refine And.intro (ob_move rfl (wt_none rfl) (ev_dep (j := 4) (by kernel_rfl) rfl rfl) (fun _ _ h => h)) ?_
      refine And.intro (ob_fieldAddr rfl (wt_dep (c := true) (b := true) (g := 5) rfl (by kernel_rfl) rfl rfl rfl (by exact fun _ _ h => h)) (ev_far rfl rfl) (fun _ => by kernel_rfl) (fun _ => rfl)) ?_
      refine And.intro (ob_load rfl (wt_dep (c := true) (b := true) (g := 5) rfl (by kernel_rfl) rfl rfl rfl (by exact fun _ _ h => h)) (ev_dep (j := 6) (by kernel_rfl) rfl rfl) (fun w2 hb => run_load1 Try.underlying23 rfl ((B0.below hb).cell 2)) (fun _ _ => rfl)) ?_
      refine And.intro (ob_fieldAddr rfl (wt_dep (c := true) (b := true) (g := 5) rfl (by kernel_rfl) rfl rfl rfl (by exact fun _ _ h => h)) (ev_far rfl rfl) (fun _ => by kernel_rfl) (fun _ => rfl)) ?_
      refine And.intro (ob_load rfl (wt_dep (c := true) (b := true) (g := 5) rfl (by kernel_rfl) rfl rfl rfl (by exact fun _ _ h => h)) (ev_dep (j := 8) (by kernel_rfl) rfl rfl) (fun w2 hb => run_load1 Try.underlying23 rfl ((B1.below hb).cell 2)) (fun _ _ => rfl)) ?_
      refine And.intro (ob_call2 rfl Try.func31 (by kernel_rfl) (wt_dep (c := true) (b := true) (g := 5) rfl (by kernel_rfl) rfl rfl rfl (by exact fun _ _ h => h)) (ev_dep (j := 7) (by kernel_rfl) rfl rfl) (ev_dep (j := 9) (by kernel_rfl) rfl rfl) (fun w2 u0 u1 hb h0 h1 => by obtain rfl := h0; obtain rfl := h1; exact (same_num _ _ d0 d1 b _ (k0d.below hb) (k1d.below hb) HB.out).mono fun e w3 h => RetV.pd h)) ?_
      refine And.intro (ob_pick (b := true) rfl (wt_none rfl) (ev_dep (j := 5) (by kernel_rfl) rfl rfl) (ev_dep (j := 10) (by kernel_rfl) rfl rfl) (fun _ _ h => h)) ?_
      refine And.intro (ob_assign rfl (wt_none rfl) (ev_dep (j := 11) (by kernel_rfl) rfl rfl) (fun _ _ h => h)) ?_
      trivial
    case done1 =>
      refine fun w1 hb1 v0 h0 v1 h1 v2 h2 v3 h3 v4 h4 v5 h5 v6 h6 v7 h7 v8 h8 v9 h9 v10 h10 v11 h11 v12 h12 b hbf => ?_
      obtain rfl := h0; obtain rfl := h1; obtain rfl := h2; obtain rfl := h3; obtain rfl := h4; obtain rfl := h5; obtain rfl := h6; obtain rfl := h7; obtain rfl := h8; obtain rfl := h9; obtain rfl := h10; obtain rfl := h11; obtain rfl := h12
      simp only [Act.put, List.setIfInBounds_toArray, List.set_cons_zero, List.set_cons_succ] at hbf
      subst hbf
      replace B0 := B0.below hb1
      replace k0d := k0d.below hb1
      replace k0z := k0z.below hb1
      replace B1 := B1.below hb1
      replace k1d := k1d.below hb1
      replace k1z := k1z.below hb1
      replace bb := bb.trans (hb1.mono bb.size)
      have hsz1 := bb.size
      refine ops_done ?_
      go_wp2
      go_ret
      exact ⟨rfl, bb⟩
  · obtain rfl : b = false := by rw [hb, decide_eq_false_iff_not]; exact fun h => hn h.1
    clear hb
    have HN := Lib.hid hn
    clear hn
    go_enter Try.func12, Try.ntmps12
    go_upto_region 1 with (fail)
    obtain ⟨wx, hwx, bb, B0, B1, hsz⟩ := vars2 w 27 27 #[.bool b0, u0, t0] #[.bool b1, u1, t1]
    rw [hwx]
    clear hwx
    have k0d := hd0.below bb
    have k0z := hz0.below bb
    have k1d := hd1.below bb
    have k1z := hz1.below bb
    refine flowp 13 [Pd.eq (.pointer (some ⟨w.heap.size, 0, none⟩)), Pd.eq (.agg #[.bool b0, u0]), Pd.eq (.pointer (some ⟨w.heap.size + 1, 0, none⟩)), Pd.eq (.agg #[.bool b1, u1]), Pd.eq (.bool false), Pd.eq (.bool false), Pd.any, Pd.any, Pd.any, Pd.any, Pd.any, Pd.eq (.bool false), Pd.eq (.bool false)] (by kernel_rfl) ?ob2 ?done2
    case ob2 =>
      refine And.intro (ob_fieldAddr rfl (wt_none rfl) (ev_far rfl rfl) (fun _ => by kernel_rfl) (fun _ => rfl)) ?_
      refine And.intro (ob_load rfl (wt_none rfl) (ev_dep (j := 0) (by kernel_rfl) rfl rfl) (fun w2 hb => run_loadPart Try.underlying25 rfl (by kernel_rfl) (B0.below hb) rfl) (fun _ _ => rfl)) ?_
      refine And.intro (ob_fieldAddr rfl (wt_none rfl) (ev_far rfl rfl) (fun _ => by kernel_rfl) (fun _ => rfl)) ?_
      refine And.intro (ob_load rfl (wt_none rfl) (ev_dep (j := 2) (by kernel_rfl) rfl rfl) (fun w2 hb => run_loadPart Try.underlying25 rfl (by kernel_rfl) (B1.below hb) rfl) (fun _ _ => rfl)) ?_
      refine And.intro (ob_call2 rfl Try.func30 (by kernel_rfl) (wt_none rfl) (ev_dep (j := 1) (by kernel_rfl) rfl rfl) (ev_dep (j := 3) (by kernel_rfl) rfl rfl) (fun w2 u0 u1 hb h0 h1 => by obtain rfl := h0; obtain rfl := h1; exact (zsame_any _ z0 _ z1 false _ (k0z.below hb) (k1z.below hb) (decide_eq_false HN.out).symm).mono fun e w3 h => RetV.pd h)) ?_
      refine And.intro (ob_move rfl (wt_none rfl) (ev_dep (j := 4) (by kernel_rfl) rfl rfl) (fun _ _ h => h)) ?_
      refine And.intro (ob_not (wt_dep (c := false) (b := true) (g := 5) rfl (by kernel_rfl) rfl rfl rfl (by exact fun _ _ h => h)) (fun _ => trivial) rfl) ?_
      refine And.intro (ob_not (wt_dep (c := false) (b := true) (g := 5) rfl (by kernel_rfl) rfl rfl rfl (by exact fun _ _ h => h)) (fun _ => trivial) rfl) ?_
      refine And.intro (ob_not (wt_dep (c := false) (b := true) (g := 5) rfl (by kernel_rfl) rfl rfl rfl (by exact fun _ _ h => h)) (fun _ => trivial) rfl) ?_
      refine And.intro (ob_not (wt_dep (c := false) (b := true) (g := 5) rfl (by kernel_rfl) rfl rfl rfl (by exact fun _ _ h => h)) (fun _ => trivial) rfl) ?_
      refine And.intro (ob_not (wt_dep (c := false) (b := true) (g := 5) rfl (by kernel_rfl) rfl rfl rfl (by exact fun _ _ h => h)) (fun _ => trivial) rfl) ?_
      refine And.intro (ob_pick (b := false) rfl (wt_none rfl) (ev_dep (j := 5) (by kernel_rfl) rfl rfl) (ev_const _) (fun _ _ h => h)) ?_
      refine And.intro (ob_assign rfl (wt_none rfl) (ev_dep (j := 11) (by kernel_rfl) rfl rfl) (fun _ _ h => h)) ?_
      trivial
    case done2 =>
      refine fun w1 hb1 v0 h0 v1 h1 v2 h2 v3 h3 v4 h4 v5 h5 v6 h6 v7 h7 v8 h8 v9 h9 v10 h10 v11 h11 v12 h12 b hbf => ?_
      obtain rfl := h0; obtain rfl := h1; obtain rfl := h2; obtain rfl := h3; obtain rfl := h4; obtain rfl := h5; obtain rfl := h11; obtain rfl := h12
      clear h6
      clear h7
      clear h8
      clear h9
      clear h10
      simp only [Act.put, List.setIfInBounds_toArray, List.set_cons_zero, List.set_cons_succ] at hbf
      subst hbf
      replace B0 := B0.below hb1
      replace k0d := k0d.below hb1
      replace k0z := k0z.below hb1
      replace B1 := B1.below hb1
      replace k1d := k1d.below hb1
      replace k1z := k1z.below hb1
      replace bb := bb.trans (hb1.mono bb.size)
      have hsz1 := bb.size
      refine ops_done ?_
      go_wp2
      go_ret
      exact ⟨rfl, bb⟩

section
open Classical
theorem mayB_val {l : List Nat} (h : mayB l = true) : l = digs 4294967296 (val 4294967296 l) := by
  unfold mayB at h
  rw [decide_eq_true_iff] at h
  rw [← trim_digs (by omega) h.1, h.2]
end
theorem low_same {z : Int} {d : Nat} (hd : d ≠ 0) : ((mkRat z d).num = z ∧ (mkRat z d).den = d) ↔ Nat.gcd z.natAbs d = 1 := by
  constructor
  · rintro ⟨_, h⟩
    rw [mk_den z hd] at h
    have hg : 0 < Nat.gcd z.natAbs d := Nat.gcd_pos_of_pos_right _ (by omega)
    rcases Nat.lt_or_ge 1 (Nat.gcd z.natAbs d) with h1 | h1
    · have := Nat.div_lt_self (n := d) (by omega) h1
      omega
    · omega
  · intro h
    have := Rat.mk_eq_mkRat z d hd h
    rw [← this]
    exact ⟨rfl, rfl⟩
/-- May these be a fraction's parts? -/
noncomputable def mayQ (b : Bool) (l m : List Nat) : Bool := mayB l && (mayB m && (!(((m.length : Nat) : Int) == 0) && (!(b && (((l.length : Nat) : Int) == 0)) && decide (Nat.gcd (val 4294967296 l) (val 4294967296 m) = 1))))

set_option maxHeartbeats 6400000 in
set_option maxRecDepth 100000 in
theorem qmay_any (b : Bool) (u t : Value) (l m : List Nat) (v : Bool) (w : World) (h0 : IsS w .u64 u l) (u0 : Lt 18446744073709551616 l) (h1 : IsS w .u64 t m) (u1 : Lt 18446744073709551616 m) (hl : l.length ≤ 1000) (hm : m.length ≤ 1000) (hv : v = mayQ b l m) :
    Calls Try.prog 14 #[.agg #[.bool b, u, t]] w (RetV (.bool v) w) := by
  obtain ⟨A0, c0, rfl, _⟩ := id h0
  obtain ⟨D0, e0, rfl, _⟩ := id h1
  have HU0 := Lib.hid u0
  have HU1 := Lib.hid u1
  clear u0 u1
  rcases hL : mayB l with _ | _
  · obtain rfl : v = false := by rw [hv]; unfold mayQ; rw [hL]; rfl
    clear hv
    have HLb := Lib.hid hL
    clear hL
    go_enter Try.func14, Try.ntmps14
    go_upto_region 1 with (fail)
    obtain ⟨wx, hwx, bb, B0, hsz⟩ := vars1 w 27 #[.bool b, .slice A0 l.length c0, .slice D0 m.length e0]
    rw [hwx]
    clear hwx
    have k0s := h0.below bb
    have k0d := h1.below bb
    refine flowp 29 [Pd.eq (.pointer (some ⟨w.heap.size, 0, none⟩)), Pd.eq (.pointer (some ⟨w.heap.size, 1, none⟩)), Pd.eq (.slice A0 l.length c0), Pd.eq (.bool false), Pd.eq (.bool true), Pd.eq (.bool true), Pd.any, Pd.any, Pd.any, Pd.any, Pd.eq (.bool true), Pd.eq (.bool true), Pd.any, Pd.any, Pd.any, Pd.any, Pd.eq (.bool true), Pd.eq (.bool true), Pd.any, Pd.any, Pd.any, Pd.eq (undef), Pd.any, Pd.any, Pd.any, Pd.any, Pd.any, Pd.any, Pd.eq (.bool true)] (by kernel_rfl) ?ob8 ?done8
    case ob8 =>
      refine And.intro (ob_fieldAddr rfl (wt_none rfl) (ev_far rfl rfl) (fun _ => by kernel_rfl) (fun _ => rfl)) ?_
      refine And.intro (ob_fieldAddr rfl (wt_none rfl) (ev_dep (j := 0) (by kernel_rfl) rfl rfl) (fun _ => by kernel_rfl) (fun _ => rfl)) ?_
      refine And.intro (ob_load rfl (wt_none rfl) (ev_dep (j := 1) (by kernel_rfl) rfl rfl) (fun w2 hb => run_load1 Try.underlying23 rfl ((B0.below hb).cell 1)) (fun _ _ => rfl)) ?_
      refine And.intro (ob_call1 rfl Try.func35 (by kernel_rfl) (wt_none rfl) (ev_dep (j := 2) (by kernel_rfl) rfl rfl) (fun w2 u0 hb h0 => by obtain rfl := h0; exact (refMay_any _ l _ (k0s.below hb) HU0.out).mono fun e w3 h => ⟨.bool (mayB l), h.1, congrArg Value.bool HLb.out, by rw [← h.2]; exact Below.refl _ _⟩)) ?_
      refine And.intro (ob_un rfl (wt_none rfl) (ev_dep (j := 3) (by kernel_rfl) rfl rfl) (fun _ => un_not _ _) (fun _ => rfl)) ?_
      refine And.intro (ob_move rfl (wt_none rfl) (ev_dep (j := 4) (by kernel_rfl) rfl rfl) (fun _ _ h => h)) ?_
      refine And.intro (ob_not (wt_dep (c := true) (b := false) (g := 5) rfl (by kernel_rfl) rfl rfl rfl (by exact fun _ _ h => h)) (fun _ => trivial) rfl) ?_
      refine And.intro (ob_not (wt_dep (c := true) (b := false) (g := 5) rfl (by kernel_rfl) rfl rfl rfl (by exact fun _ _ h => h)) (fun _ => trivial) rfl) ?_
      refine And.intro (ob_not (wt_dep (c := true) (b := false) (g := 5) rfl (by kernel_rfl) rfl rfl rfl (by exact fun _ _ h => h)) (fun _ => trivial) rfl) ?_
      refine And.intro (ob_not (wt_dep (c := true) (b := false) (g := 5) rfl (by kernel_rfl) rfl rfl rfl (by exact fun _ _ h => h)) (fun _ => trivial) rfl) ?_
      refine And.intro (ob_pick (b := true) rfl (wt_none rfl) (ev_dep (j := 5) (by kernel_rfl) rfl rfl) (ev_const _) (fun _ _ h => h)) ?_
      refine And.intro (ob_move rfl (wt_none rfl) (ev_dep (j := 10) (by kernel_rfl) rfl rfl) (fun _ _ h => h)) ?_
      refine And.intro (ob_not (wt_dep (c := true) (b := false) (g := 11) rfl (by kernel_rfl) rfl rfl rfl (by exact fun _ _ h => h)) (fun _ => trivial) rfl) ?_
      refine And.intro (ob_not (wt_dep (c := true) (b := false) (g := 11) rfl (by kernel_rfl) rfl rfl rfl (by exact fun _ _ h => h)) (fun _ => trivial) rfl) ?_
      refine And.intro (ob_not (wt_dep (c := true) (b := false) (g := 11) rfl (by kernel_rfl) rfl rfl rfl (by exact fun _ _ h => h)) (fun _ => trivial) rfl) ?_
      refine And.intro (ob_not (wt_dep (c := true) (b := false) (g := 11) rfl (by kernel_rfl) rfl rfl rfl (by exact fun _ _ h => h)) (fun _ => trivial) rfl) ?_
      refine And.intro (ob_pick (b := true) rfl (wt_none rfl) (ev_dep (j := 11) (by kernel_rfl) rfl rfl) (ev_const _) (fun _ _ h => h)) ?_
      refine And.intro (ob_move rfl (wt_none rfl) (ev_dep (j := 16) (by kernel_rfl) rfl rfl) (fun _ _ h => h)) ?_
      refine And.intro (ob_not (wt_dep (c := true) (b := false) (g := 17) rfl (by kernel_rfl) rfl rfl rfl (by exact fun _ _ h => h)) (fun _ => trivial) rfl) ?_
      refine And.intro (ob_not (wt_dep (c := true) (b := false) (g := 17) rfl (by kernel_rfl) rfl rfl rfl (by exact fun _ _ h => h)) (fun _ => trivial) rfl) ?_
      refine And.intro (ob_not (wt_dep (c := true) (b := false) (g := 17) rfl (by kernel_rfl) rfl rfl rfl (by exact fun _ _ h => h)) (fun _ => trivial) rfl) ?_
      refine And.intro (ob_not (wt_dep (c := true) (b := false) (g := 17) rfl (by kernel_rfl) rfl rfl rfl (by exact fun _ _ h => h)) (fun _ => rfl) rfl) ?_
      refine And.intro (ob_not (wt_undef (b := true) (g := 21) rfl (by kernel_rfl) rfl rfl rfl (by exact fun _ _ h => h)) (fun _ => trivial) rfl) ?_
      refine And.intro (ob_not (wt_undef (b := true) (g := 21) rfl (by kernel_rfl) rfl rfl rfl (by exact fun _ _ h => h)) (fun _ => trivial) rfl) ?_
      refine And.intro (ob_not (wt_undef (b := true) (g := 21) rfl (by kernel_rfl) rfl rfl rfl (by exact fun _ _ h => h)) (fun _ => trivial) rfl) ?_
      refine And.intro (ob_not (wt_undef (b := true) (g := 21) rfl (by kernel_rfl) rfl rfl rfl (by exact fun _ _ h => h)) (fun _ => trivial) rfl) ?_
      refine And.intro (ob_not (wt_undef (b := true) (g := 21) rfl (by kernel_rfl) rfl rfl rfl (by exact fun _ _ h => h)) (fun _ => trivial) rfl) ?_
      refine And.intro (ob_not (wt_dep (c := true) (b := false) (g := 17) rfl (by kernel_rfl) rfl rfl rfl (by exact fun _ _ h => h)) (fun _ => trivial) rfl) ?_
      refine And.intro (ob_pick (b := true) rfl (wt_none rfl) (ev_dep (j := 17) (by kernel_rfl) rfl rfl) (ev_const _) (fun _ _ h => h)) ?_
      trivial
    case done8 =>
      refine fun w1 hb1 v0 h0 v1 h1 v2 h2 v3 h3 v4 h4 v5 h5 v6 h6 v7 h7 v8 h8 v9 h9 v10 h10 v11 h11 v12 h12 v13 h13 v14 h14 v15 h15 v16 h16 v17 h17 v18 h18 v19 h19 v20 h20 v21 h21 v22 h22 v23 h23 v24 h24 v25 h25 v26 h26 v27 h27 v28 h28 b hbf => ?_
      obtain rfl := h0; obtain rfl := h1; obtain rfl := h2; obtain rfl := h3; obtain rfl := h4; obtain rfl := h5; obtain rfl := h10; obtain rfl := h11; obtain rfl := h16; obtain rfl := h17; obtain rfl := h21; obtain rfl := h28
      clear h6
      clear h7
      clear h8
      clear h9
      clear h12
      clear h13
      clear h14
      clear h15
      clear h18
      clear h19
      clear h20
      clear h22
      clear h23
      clear h24
      clear h25
      clear h26
      clear h27
      simp only [Act.put, List.setIfInBounds_toArray, List.set_cons_zero, List.set_cons_succ] at hbf
      subst hbf
      replace B0 := B0.below hb1
      replace k0s := k0s.below hb1
      replace k0d := k0d.below hb1
      replace bb := bb.trans (hb1.mono bb.size)
      have hsz1 := bb.size
      refine ops_done ?_
      go_wp2
      go_ret
      exact ⟨rfl, bb⟩
  · rcases hM : mayB m with _ | _
    · obtain rfl : v = false := by rw [hv]; unfold mayQ; rw [hL, hM]; rfl
      clear hv
      have HLb := Lib.hid hL
      have HMb := Lib.hid hM
      clear hL hM
      go_enter Try.func14, Try.ntmps14
      go_upto_region 1 with (fail)
      obtain ⟨wx, hwx, bb, B0, hsz⟩ := vars1 w 27 #[.bool b, .slice A0 l.length c0, .slice D0 m.length e0]
      rw [hwx]
      clear hwx
      have k0s := h0.below bb
      have k0d := h1.below bb
      refine flowp 29 [Pd.eq (.pointer (some ⟨w.heap.size, 0, none⟩)), Pd.eq (.pointer (some ⟨w.heap.size, 1, none⟩)), Pd.eq (.slice A0 l.length c0), Pd.eq (.bool true), Pd.eq (.bool false), Pd.eq (.bool false), Pd.eq (.pointer (some ⟨w.heap.size, 2, none⟩)), Pd.eq (.slice D0 m.length e0), Pd.eq (.bool false), Pd.eq (.bool true), Pd.eq (.bool true), Pd.eq (.bool true), Pd.any, Pd.any, Pd.any, Pd.any, Pd.eq (.bool true), Pd.eq (.bool true), Pd.any, Pd.any, Pd.any, Pd.eq (undef), Pd.any, Pd.any, Pd.any, Pd.any, Pd.any, Pd.any, Pd.eq (.bool true)] (by kernel_rfl) ?ob9 ?done9
      case ob9 =>
        refine And.intro (ob_fieldAddr rfl (wt_none rfl) (ev_far rfl rfl) (fun _ => by kernel_rfl) (fun _ => rfl)) ?_
        refine And.intro (ob_fieldAddr rfl (wt_none rfl) (ev_dep (j := 0) (by kernel_rfl) rfl rfl) (fun _ => by kernel_rfl) (fun _ => rfl)) ?_
        refine And.intro (ob_load rfl (wt_none rfl) (ev_dep (j := 1) (by kernel_rfl) rfl rfl) (fun w2 hb => run_load1 Try.underlying23 rfl ((B0.below hb).cell 1)) (fun _ _ => rfl)) ?_
        refine And.intro (ob_call1 rfl Try.func35 (by kernel_rfl) (wt_none rfl) (ev_dep (j := 2) (by kernel_rfl) rfl rfl) (fun w2 u0 hb h0 => by obtain rfl := h0; exact (refMay_any _ l _ (k0s.below hb) HU0.out).mono fun e w3 h => ⟨.bool (mayB l), h.1, congrArg Value.bool HLb.out, by rw [← h.2]; exact Below.refl _ _⟩)) ?_
        refine And.intro (ob_un rfl (wt_none rfl) (ev_dep (j := 3) (by kernel_rfl) rfl rfl) (fun _ => un_not _ _) (fun _ => rfl)) ?_
        refine And.intro (ob_move rfl (wt_none rfl) (ev_dep (j := 4) (by kernel_rfl) rfl rfl) (fun _ _ h => h)) ?_
        refine And.intro (ob_fieldAddr rfl (wt_dep (c := false) (b := false) (g := 5) rfl (by kernel_rfl) rfl rfl rfl (by exact fun _ _ h => h)) (ev_far rfl rfl) (fun _ => by kernel_rfl) (fun _ => rfl)) ?_
        refine And.intro (ob_load rfl (wt_dep (c := false) (b := false) (g := 5) rfl (by kernel_rfl) rfl rfl rfl (by exact fun _ _ h => h)) (ev_dep (j := 6) (by kernel_rfl) rfl rfl) (fun w2 hb => run_load1 Try.underlying23 rfl ((B0.below hb).cell 2)) (fun _ _ => rfl)) ?_
        refine And.intro (ob_call1 rfl Try.func35 (by kernel_rfl) (wt_dep (c := false) (b := false) (g := 5) rfl (by kernel_rfl) rfl rfl rfl (by exact fun _ _ h => h)) (ev_dep (j := 7) (by kernel_rfl) rfl rfl) (fun w2 u0 hb h0 => by obtain rfl := h0; exact (refMay_any _ m _ (k0d.below hb) HU1.out).mono fun e w3 h => ⟨.bool (mayB m), h.1, congrArg Value.bool HMb.out, by rw [← h.2]; exact Below.refl _ _⟩)) ?_
        refine And.intro (ob_un rfl (wt_dep (c := false) (b := false) (g := 5) rfl (by kernel_rfl) rfl rfl rfl (by exact fun _ _ h => h)) (ev_dep (j := 8) (by kernel_rfl) rfl rfl) (fun _ => un_not _ _) (fun _ => rfl)) ?_
        refine And.intro (ob_pick (b := false) rfl (wt_none rfl) (ev_dep (j := 5) (by kernel_rfl) rfl rfl) (ev_dep (j := 9) (by kernel_rfl) rfl rfl) (fun _ _ h => h)) ?_
        refine And.intro (ob_move rfl (wt_none rfl) (ev_dep (j := 10) (by kernel_rfl) rfl rfl) (fun _ _ h => h)) ?_
        refine And.intro (ob_not (wt_dep (c := true) (b := false) (g := 11) rfl (by kernel_rfl) rfl rfl rfl (by exact fun _ _ h => h)) (fun _ => trivial) rfl) ?_
        refine And.intro (ob_not (wt_dep (c := true) (b := false) (g := 11) rfl (by kernel_rfl) rfl rfl rfl (by exact fun _ _ h => h)) (fun _ => trivial) rfl) ?_
        refine And.intro (ob_not (wt_dep (c := true) (b := false) (g := 11) rfl (by kernel_rfl) rfl rfl rfl (by exact fun _ _ h => h)) (fun _ => trivial) rfl) ?_
        refine And.intro (ob_not (wt_dep (c := true) (b := false) (g := 11) rfl (by kernel_rfl) rfl rfl rfl (by exact fun _ _ h => h)) (fun _ => trivial) rfl) ?_
        refine And.intro (ob_pick (b := true) rfl (wt_none rfl) (ev_dep (j := 11) (by kernel_rfl) rfl rfl) (ev_const _) (fun _ _ h => h)) ?_
        refine And.intro (ob_move rfl (wt_none rfl) (ev_dep (j := 16) (by kernel_rfl) rfl rfl) (fun _ _ h => h)) ?_
        refine And.intro (ob_not (wt_dep (c := true) (b := false) (g := 17) rfl (by kernel_rfl) rfl rfl rfl (by exact fun _ _ h => h)) (fun _ => trivial) rfl) ?_
        refine And.intro (ob_not (wt_dep (c := true) (b := false) (g := 17) rfl (by kernel_rfl) rfl rfl rfl (by exact fun _ _ h => h)) (fun _ => trivial) rfl) ?_
        refine And.intro (ob_not (wt_dep (c := true) (b := false) (g := 17) rfl (by kernel_rfl) rfl rfl rfl (by exact fun _ _ h => h)) (fun _ => trivial) rfl) ?_
        refine And.intro (ob_not (wt_dep (c := true) (b := false) (g := 17) rfl (by kernel_rfl) rfl rfl rfl (by exact fun _ _ h => h)) (fun _ => rfl) rfl) ?_
        refine And.intro (ob_not (wt_undef (b := true) (g := 21) rfl (by kernel_rfl) rfl rfl rfl (by exact fun _ _ h => h)) (fun _ => trivial) rfl) ?_
        refine And.intro (ob_not (wt_undef (b := true) (g := 21) rfl (by kernel_rfl) rfl rfl rfl (by exact fun _ _ h => h)) (fun _ => trivial) rfl) ?_
        refine And.intro (ob_not (wt_undef (b := true) (g := 21) rfl (by kernel_rfl) rfl rfl rfl (by exact fun _ _ h => h)) (fun _ => trivial) rfl) ?_
        refine And.intro (ob_not (wt_undef (b := true) (g := 21) rfl (by kernel_rfl) rfl rfl rfl (by exact fun _ _ h => h)) (fun _ => trivial) rfl) ?_
        refine And.intro (ob_not (wt_undef (b := true) (g := 21) rfl (by kernel_rfl) rfl rfl rfl (by exact fun _ _ h => h)) (fun _ => trivial) rfl) ?_
        refine And.intro (ob_not (wt_dep (c := true) (b := false) (g := 17) rfl (by kernel_rfl) rfl rfl rfl (by exact fun _ _ h => h)) (fun _ => trivial) rfl) ?_
        refine And.intro (ob_pick (b := true) rfl (wt_none rfl) (ev_dep (j := 17) (by kernel_rfl) rfl rfl) (ev_const _) (fun _ _ h => h)) ?_
        trivial
      case done9 =>
        refine fun w1 hb1 v0 h0 v1 h1 v2 h2 v3 h3 v4 h4 v5 h5 v6 h6 v7 h7 v8 h8 v9 h9 v10 h10 v11 h11 v12 h12 v13 h13 v14 h14 v15 h15 v16 h16 v17 h17 v18 h18 v19 h19 v20 h20 v21 h21 v22 h22 v23 h23 v24 h24 v25 h25 v26 h26 v27 h27 v28 h28 b hbf => ?_
        obtain rfl := h0; obtain rfl := h1; obtain rfl := h2; obtain rfl := h3; obtain rfl := h4; obtain rfl := h5; obtain rfl := h6; obtain rfl := h7; obtain rfl := h8; obtain rfl := h9; obtain rfl := h10; obtain rfl := h11; obtain rfl := h16; obtain rfl := h17; obtain rfl := h21; obtain rfl := h28
        clear h12
        clear h13
        clear h14
        clear h15
        clear h18
        clear h19
        clear h20
        clear h22
        clear h23
        clear h24
        clear h25
        clear h26
        clear h27
        simp only [Act.put, List.setIfInBounds_toArray, List.set_cons_zero, List.set_cons_succ] at hbf
        subst hbf
        replace B0 := B0.below hb1
        replace k0s := k0s.below hb1
        replace k0d := k0d.below hb1
        replace bb := bb.trans (hb1.mono bb.size)
        have hsz1 := bb.size
        refine ops_done ?_
        go_wp2
        go_ret
        exact ⟨rfl, bb⟩
    · rcases hm0 : (((m.length : Nat) : Int) == 0) with _ | _
      · cases b
        · replace hv : v = decide (Nat.gcd (val 4294967296 l) (val 4294967296 m) = 1) := by rw [hv]; unfold mayQ; rw [hL, hM, hm0]; rfl
          obtain ⟨x, hx⟩ : ∃ x, x = val 4294967296 l := ⟨_, rfl⟩
          obtain ⟨d, hd⟩ : ∃ d, d = val 4294967296 m := ⟨_, rfl⟩
          have HLx : Hid (l = digs 4294967296 x) := by show _ = _; rw [hx]; exact mayB_val hL
          have HMd : Hid (m = digs 4294967296 d) := by show _ = _; rw [hd]; exact mayB_val hM
          rw [← hx, ← hd] at hv
          clear hx hd
          have hd0 : d ≠ 0 := by
            intro e
            have h2 := HMd.out
            rw [e, digs_zero] at h2
            rw [h2] at hm0
            cases hm0
          obtain ⟨z, hz⟩ : ∃ z, z = sg false x := ⟨_, rfl⟩
          have HZA : Hid (z.natAbs = x) := by show _ = _; rw [hz, sg_abs]
          have HZN : Hid (false = ngB z) := by show _ = _; rw [hz]; exact (ngB_of_pos (by rw [sg_false]; omega)).symm
          have HLZ : Hid (lenZ z ≤ 30000) := by show _ ≤ _; unfold lenZ; rw [HZA.out, ← HLx.out]; omega
          have HLD : Hid ((digs 4294967296 d).length ≤ 30000) := by show _ ≤ _; rw [← HMd.out]; omega
          obtain ⟨Q, hQ⟩ : ∃ Q, Q = mkRat z d := ⟨_, rfl⟩
          have HQ : Hid (mkRat z d = Q) := hQ.symm
          have lQ : lenQ Q 30000 := by rw [hQ]; exact lenQ_mk hd0 HLZ.out HLD.out
          have HV : Hid (v = decide (Q.num = z ∧ Q.den = d)) := by show _ = _; rw [hv, decide_eq_decide, hQ, low_same hd0, HZA.out]
          clear hz hQ hv
          have HLb := Lib.hid hL
          have HMb := Lib.hid hM
          have HM0 : Hid ((((m.length : Nat) : Int) == 0) = false) := hm0
          clear hL hM hm0
          go_enter Try.func14, Try.ntmps14
          go_upto_region 1 with (fail)
          obtain ⟨wx, hwx, bb, B0, hsz⟩ := vars1 w 27 #[.bool false, .slice A0 l.length c0, .slice D0 m.length e0]
          rw [hwx]
          clear hwx
          have k0s := h0.below bb
          have k0d := h1.below bb
          have k0z : IsZ wx (.agg #[.bool false, .slice A0 l.length c0]) z := isZ_mk (x := x) (by rw [← HLx.out]; exact k0s) HZA.out HZN.out
          have k0e : IsS wx .u64 (.slice D0 m.length e0) (digs 4294967296 d) := by rw [← HMd.out]; exact k0d
          refine flowp 29 [Pd.eq (.pointer (some ⟨w.heap.size, 0, none⟩)), Pd.eq (.pointer (some ⟨w.heap.size, 1, none⟩)), Pd.eq (.slice A0 l.length c0), Pd.eq (.bool true), Pd.eq (.bool false), Pd.eq (.bool false), Pd.eq (.pointer (some ⟨w.heap.size, 2, none⟩)), Pd.eq (.slice D0 m.length e0), Pd.eq (.bool true), Pd.eq (.bool false), Pd.eq (.bool false), Pd.eq (.bool false), Pd.eq (.pointer (some ⟨w.heap.size, 2, none⟩)), Pd.eq (.slice D0 m.length e0), Pd.eq (.int .i64 ((m.length : Nat) : Int)), Pd.eq (.bool false), Pd.eq (.bool false), Pd.eq (.bool false), Pd.eq (.pointer (some ⟨w.heap.size, 0, none⟩)), Pd.eq (.pointer (some ⟨w.heap.size, 0, none⟩)), Pd.eq (.bool false), Pd.eq (.bool false), Pd.any, Pd.any, Pd.any, Pd.any, Pd.any, Pd.eq (.bool false), Pd.eq (.bool false)] (by kernel_rfl) ?ob3 ?done3
          case ob3 =>
            refine And.intro (ob_fieldAddr rfl (wt_none rfl) (ev_far rfl rfl) (fun _ => by kernel_rfl) (fun _ => rfl)) ?_
            refine And.intro (ob_fieldAddr rfl (wt_none rfl) (ev_dep (j := 0) (by kernel_rfl) rfl rfl) (fun _ => by kernel_rfl) (fun _ => rfl)) ?_
            refine And.intro (ob_load rfl (wt_none rfl) (ev_dep (j := 1) (by kernel_rfl) rfl rfl) (fun w2 hb => run_load1 Try.underlying23 rfl ((B0.below hb).cell 1)) (fun _ _ => rfl)) ?_
            refine And.intro (ob_call1 rfl Try.func35 (by kernel_rfl) (wt_none rfl) (ev_dep (j := 2) (by kernel_rfl) rfl rfl) (fun w2 u0 hb h0 => by obtain rfl := h0; exact (refMay_any _ l _ (k0s.below hb) HU0.out).mono fun e w3 h => ⟨.bool (mayB l), h.1, congrArg Value.bool HLb.out, by rw [← h.2]; exact Below.refl _ _⟩)) ?_
            refine And.intro (ob_un rfl (wt_none rfl) (ev_dep (j := 3) (by kernel_rfl) rfl rfl) (fun _ => un_not _ _) (fun _ => rfl)) ?_
            refine And.intro (ob_move rfl (wt_none rfl) (ev_dep (j := 4) (by kernel_rfl) rfl rfl) (fun _ _ h => h)) ?_
            refine And.intro (ob_fieldAddr rfl (wt_dep (c := false) (b := false) (g := 5) rfl (by kernel_rfl) rfl rfl rfl (by exact fun _ _ h => h)) (ev_far rfl rfl) (fun _ => by kernel_rfl) (fun _ => rfl)) ?_
            refine And.intro (ob_load rfl (wt_dep (c := false) (b := false) (g := 5) rfl (by kernel_rfl) rfl rfl rfl (by exact fun _ _ h => h)) (ev_dep (j := 6) (by kernel_rfl) rfl rfl) (fun w2 hb => run_load1 Try.underlying23 rfl ((B0.below hb).cell 2)) (fun _ _ => rfl)) ?_
            refine And.intro (ob_call1 rfl Try.func35 (by kernel_rfl) (wt_dep (c := false) (b := false) (g := 5) rfl (by kernel_rfl) rfl rfl rfl (by exact fun _ _ h => h)) (ev_dep (j := 7) (by kernel_rfl) rfl rfl) (fun w2 u0 hb h0 => by obtain rfl := h0; exact (refMay_any _ m _ (k0d.below hb) HU1.out).mono fun e w3 h => ⟨.bool (mayB m), h.1, congrArg Value.bool HMb.out, by rw [← h.2]; exact Below.refl _ _⟩)) ?_
            refine And.intro (ob_un rfl (wt_dep (c := false) (b := false) (g := 5) rfl (by kernel_rfl) rfl rfl rfl (by exact fun _ _ h => h)) (ev_dep (j := 8) (by kernel_rfl) rfl rfl) (fun _ => un_not _ _) (fun _ => rfl)) ?_
            refine And.intro (ob_pick (b := false) rfl (wt_none rfl) (ev_dep (j := 5) (by kernel_rfl) rfl rfl) (ev_dep (j := 9) (by kernel_rfl) rfl rfl) (fun _ _ h => h)) ?_
            refine And.intro (ob_move rfl (wt_none rfl) (ev_dep (j := 10) (by kernel_rfl) rfl rfl) (fun _ _ h => h)) ?_
            refine And.intro (ob_fieldAddr rfl (wt_dep (c := false) (b := false) (g := 11) rfl (by kernel_rfl) rfl rfl rfl (by exact fun _ _ h => h)) (ev_far rfl rfl) (fun _ => by kernel_rfl) (fun _ => rfl)) ?_
            refine And.intro (ob_load rfl (wt_dep (c := false) (b := false) (g := 11) rfl (by kernel_rfl) rfl rfl rfl (by exact fun _ _ h => h)) (ev_dep (j := 12) (by kernel_rfl) rfl rfl) (fun w2 hb => run_load1 Try.underlying23 rfl ((B0.below hb).cell 2)) (fun _ _ => rfl)) ?_
            refine And.intro (ob_len rfl (wt_dep (c := false) (b := false) (g := 11) rfl (by kernel_rfl) rfl rfl rfl (by exact fun _ _ h => h)) (ev_dep (j := 13) (by kernel_rfl) rfl rfl) (fun _ _ hx => ⟨_, by rw [hx]; exact len_slice Try.underlying23 _ _ _ _, rfl⟩)) ?_
            refine And.intro (ob_bin rfl (wt_dep (c := false) (b := false) (g := 11) rfl (by kernel_rfl) rfl rfl rfl (by exact fun _ _ h => h)) (ev_dep (j := 14) (by kernel_rfl) rfl rfl) (ev_const _) (fun _ _ _ hx hy => ⟨.bool false, by rw [hx, hy, bin_eql_int, HM0.out], rfl⟩)) ?_
            refine And.intro (ob_pick (b := false) rfl (wt_none rfl) (ev_dep (j := 11) (by kernel_rfl) rfl rfl) (ev_dep (j := 15) (by kernel_rfl) rfl rfl) (fun _ _ h => h)) ?_
            refine And.intro (ob_move rfl (wt_none rfl) (ev_dep (j := 16) (by kernel_rfl) rfl rfl) (fun _ _ h => h)) ?_
            refine And.intro (ob_fieldAddr rfl (wt_dep (c := false) (b := false) (g := 17) rfl (by kernel_rfl) rfl rfl rfl (by exact fun _ _ h => h)) (ev_far rfl rfl) (fun _ => by kernel_rfl) (fun _ => rfl)) ?_
            refine And.intro (ob_fieldAddr rfl (wt_dep (c := false) (b := false) (g := 17) rfl (by kernel_rfl) rfl rfl rfl (by exact fun _ _ h => h)) (ev_dep (j := 18) (by kernel_rfl) rfl rfl) (fun _ => by kernel_rfl) (fun _ => rfl)) ?_
            refine And.intro (ob_load rfl (wt_dep (c := false) (b := false) (g := 17) rfl (by kernel_rfl) rfl rfl rfl (by exact fun _ _ h => h)) (ev_dep (j := 19) (by kernel_rfl) rfl rfl) (fun w2 hb => run_load1 Try.underlying4 rfl ((B0.below hb).cell 0)) (fun _ _ => rfl)) ?_
            refine And.intro (ob_move rfl (wt_dep (c := false) (b := false) (g := 17) rfl (by kernel_rfl) rfl rfl rfl (by exact fun _ _ h => h)) (ev_dep (j := 20) (by kernel_rfl) rfl rfl) (fun _ _ h => h)) ?_
            refine And.intro (ob_not (wt_dep (c := false) (b := true) (g := 21) rfl (by kernel_rfl) rfl rfl rfl (by exact fun _ _ h => h)) (fun _ => trivial) rfl) ?_
            refine And.intro (ob_not (wt_dep (c := false) (b := true) (g := 21) rfl (by kernel_rfl) rfl rfl rfl (by exact fun _ _ h => h)) (fun _ => trivial) rfl) ?_
            refine And.intro (ob_not (wt_dep (c := false) (b := true) (g := 21) rfl (by kernel_rfl) rfl rfl rfl (by exact fun _ _ h => h)) (fun _ => trivial) rfl) ?_
            refine And.intro (ob_not (wt_dep (c := false) (b := true) (g := 21) rfl (by kernel_rfl) rfl rfl rfl (by exact fun _ _ h => h)) (fun _ => trivial) rfl) ?_
            refine And.intro (ob_not (wt_dep (c := false) (b := true) (g := 21) rfl (by kernel_rfl) rfl rfl rfl (by exact fun _ _ h => h)) (fun _ => trivial) rfl) ?_
            refine And.intro (ob_pick (b := false) rfl (wt_dep (c := false) (b := false) (g := 17) rfl (by kernel_rfl) rfl rfl rfl (by exact fun _ _ h => h)) (ev_dep (j := 21) (by kernel_rfl) rfl rfl) (ev_const _) (fun _ _ h => h)) ?_
            refine And.intro (ob_pick (b := false) rfl (wt_none rfl) (ev_dep (j := 17) (by kernel_rfl) rfl rfl) (ev_dep (j := 27) (by kernel_rfl) rfl rfl) (fun _ _ h => h)) ?_
            trivial
          case done3 =>
            refine fun w1 hb1 v0 h0 v1 h1 v2 h2 v3 h3 v4 h4 v5 h5 v6 h6 v7 h7 v8 h8 v9 h9 v10 h10 v11 h11 v12 h12 v13 h13 v14 h14 v15 h15 v16 h16 v17 h17 v18 h18 v19 h19 v20 h20 v21 h21 v22 h22 v23 h23 v24 h24 v25 h25 v26 h26 v27 h27 v28 h28 b hbf => ?_
            obtain rfl := h0; obtain rfl := h1; obtain rfl := h2; obtain rfl := h3; obtain rfl := h4; obtain rfl := h5; obtain rfl := h6; obtain rfl := h7; obtain rfl := h8; obtain rfl := h9; obtain rfl := h10; obtain rfl := h11; obtain rfl := h12; obtain rfl := h13; obtain rfl := h14; obtain rfl := h15; obtain rfl := h16; obtain rfl := h17; obtain rfl := h18; obtain rfl := h19; obtain rfl := h20; obtain rfl := h21; obtain rfl := h27; obtain rfl := h28
            clear h22
            clear h23
            clear h24
            clear h25
            clear h26
            simp only [Act.put, List.setIfInBounds_toArray, List.set_cons_zero, List.set_cons_succ] at hbf
            subst hbf
            replace B0 := B0.below hb1
            replace k0s := k0s.below hb1
            replace k0d := k0d.below hb1
            replace k0z := k0z.below hb1
            replace k0e := k0e.below hb1
            replace bb := bb.trans (hb1.mono bb.size)
            have hsz1 := bb.size
            refine ops_done ?_
            go_upto_region 3 with (fail)
            refine flow 11 [Pd.eq (.pointer (some ⟨w.heap.size, 0, none⟩)), Pd.eq (.agg #[.bool false, .slice A0 l.length c0]), pr (z), Pd.eq (.pointer (some ⟨w.heap.size, 2, none⟩)), Pd.eq (.slice D0 m.length e0), ps .i64 (digs 10000 d) w1.heap.size, pp (Q), pqn Q, Pd.eq (.agg #[.bool false, .slice A0 l.length c0, .slice D0 m.length e0]), Pd.eq (.bool v), Pd.eq (.bool v)] (by kernel_rfl) (by kernel_rfl) ?ob4 ?done4
            case ob4 =>
              refine And.intro (ob_fieldAddr rfl (wt_none rfl) (ev_far rfl rfl) (fun _ => by kernel_rfl) (fun _ => rfl)) ?_
              refine And.intro (ob_load rfl (wt_none rfl) (ev_dep (j := 0) (by kernel_rfl) rfl rfl) (fun w2 hb => run_loadPart Try.underlying25 rfl (by kernel_rfl) (B0.drew.below hb) rfl) (fun _ _ => rfl)) ?_
              refine And.intro (ob_call1 rfl Try.func8 (by kernel_rfl) (wt_none rfl) (ev_dep (j := 1) (by kernel_rfl) rfl rfl) (fun w2 u0 hb h0 => by obtain rfl := h0; exact (rof_any _ z _ (k0z.drew.below hb) HLZ.out).mono fun e w3 h => RetR.pd h)) ?_
              refine And.intro (ob_fieldAddr rfl (wt_none rfl) (ev_far rfl rfl) (fun _ => by kernel_rfl) (fun _ => rfl)) ?_
              refine And.intro (ob_load rfl (wt_none rfl) (ev_dep (j := 3) (by kernel_rfl) rfl rfl) (fun w2 hb => run_load1 Try.underlying23 rfl ((B0.drew.below hb).cell 2)) (fun _ _ => rfl)) ?_
              refine And.intro (ob_call1 rfl Try.func25 (by kernel_rfl) (wt_none rfl) (ev_dep (j := 4) (by kernel_rfl) rfl rfl) (fun w2 u0 hb h0 => by obtain rfl := h0; exact (refOf_any _ d _ (k0e.drew.below hb) (Nat.le_trans HLD.out (by decide))).mono fun e w3 h => RetS.pd h hb.size)) ?_
              refine And.intro (ob_call2 rfl Try.func11 (by kernel_rfl) (wt_none rfl) (ev_dep (j := 2) (by kernel_rfl) rfl rfl) (ev_dep (j := 5) (by kernel_rfl) rfl rfl) (fun w2 u0 u1 hb h0 h1 => by exact (HQ.out ▸ rlow_any _ z _ d _ h0 h1.1 hd0 HLZ.out HLD.out).mono fun e w3 h => RetPF.pd h)) ?_
              refine And.intro (ob_call1 rfl Try.func10 (by kernel_rfl) (wt_none rfl) (ev_dep (j := 6) (by kernel_rfl) rfl rfl) (fun w2 u0 hb h0 => by exact (qback_any _ Q _ h0 lQ).mono fun e w3 h => RetQn.pd (RetQ.n h))) ?_
              refine And.intro (ob_load rfl (wt_none rfl) (ev_far rfl rfl) (fun w2 hb => run_loadAll Try.underlying27 rfl (by kernel_rfl) (B0.drew.below hb)) (fun _ _ => rfl)) ?_
              refine And.intro (ob_call2 rfl Try.func12 (by kernel_rfl) (wt_none rfl) (ev_dep (j := 7) (by kernel_rfl) rfl rfl) (ev_dep (j := 8) (by kernel_rfl) rfl rfl) (fun w2 u0 u1 hb h0 h1 => by obtain ⟨u', t', rfl, s', r'⟩ := h0; obtain rfl := h1; exact (qsamez_any _ _ _ _ _ _ Q.num z Q.den d v _ ⟨_, rfl, s'⟩ r' (k0z.drew.below hb) (k0e.drew.below hb) HV.out).mono fun e w3 h => RetV.pd h)) ?_
              refine And.intro (ob_assign rfl (wt_none rfl) (ev_dep (j := 9) (by kernel_rfl) rfl rfl) (fun _ _ h => h)) ?_
              trivial
            case done4 =>
              refine fun w2 hb2 v0 h0 v1 h1 v2 h2 v3 h3 v4 h4 v5 h5 v6 h6 v7 h7 v8 h8 v9 h9 v10 h10 b hbf => ?_
              obtain rfl := h0; obtain rfl := h1; obtain rfl := h3; obtain rfl := h4; obtain rfl := h8; obtain rfl := h9; obtain rfl := h10
              have q2 := h2
              obtain ⟨q5, f5⟩ := h5
              have q6 := h6
              have q7 := h7
              simp only [Act.put, List.setIfInBounds_toArray, List.set_cons_zero, List.set_cons_succ] at hbf
              subst hbf
              replace B0 := B0.below hb2
              replace k0s := k0s.below hb2
              replace k0d := k0d.below hb2
              replace k0z := k0z.below hb2
              replace k0e := k0e.below hb2
              replace bb := bb.trans (hb2.mono bb.size)
              have hsz2 := bb.size
              refine any_done (by kernel_rfl) ?_
              go_wp2
              go_ret
              exact ⟨rfl, bb⟩
        · rcases hl0 : (((l.length : Nat) : Int) == 0) with _ | _
          · replace hv : v = decide (Nat.gcd (val 4294967296 l) (val 4294967296 m) = 1) := by rw [hv]; unfold mayQ; rw [hL, hM, hm0, hl0]; rfl
            obtain ⟨x, hx⟩ : ∃ x, x = val 4294967296 l := ⟨_, rfl⟩
            obtain ⟨d, hd⟩ : ∃ d, d = val 4294967296 m := ⟨_, rfl⟩
            have HLx : Hid (l = digs 4294967296 x) := by show _ = _; rw [hx]; exact mayB_val hL
            have HMd : Hid (m = digs 4294967296 d) := by show _ = _; rw [hd]; exact mayB_val hM
            rw [← hx, ← hd] at hv
            clear hx hd
            have hd0 : d ≠ 0 := by
              intro e
              have h2 := HMd.out
              rw [e, digs_zero] at h2
              rw [h2] at hm0
              cases hm0
            obtain ⟨z, hz⟩ : ∃ z, z = sg true x := ⟨_, rfl⟩
            have HZA : Hid (z.natAbs = x) := by show _ = _; rw [hz, sg_abs]
            have hx0 : 0 < x := by
              rcases Nat.eq_zero_or_pos x with h | h
              · have h2 := HLx.out
                rw [h, digs_zero] at h2
                rw [h2] at hl0
                cases hl0
              · exact h
            have HZN : Hid (true = ngB z) := by show _ = _; rw [hz, ngB_sg_pos hx0]
            clear hx0
            have HLZ : Hid (lenZ z ≤ 30000) := by show _ ≤ _; unfold lenZ; rw [HZA.out, ← HLx.out]; omega
            have HLD : Hid ((digs 4294967296 d).length ≤ 30000) := by show _ ≤ _; rw [← HMd.out]; omega
            obtain ⟨Q, hQ⟩ : ∃ Q, Q = mkRat z d := ⟨_, rfl⟩
            have HQ : Hid (mkRat z d = Q) := hQ.symm
            have lQ : lenQ Q 30000 := by rw [hQ]; exact lenQ_mk hd0 HLZ.out HLD.out
            have HV : Hid (v = decide (Q.num = z ∧ Q.den = d)) := by show _ = _; rw [hv, decide_eq_decide, hQ, low_same hd0, HZA.out]
            clear hz hQ hv
            have HLb := Lib.hid hL
            have HMb := Lib.hid hM
            have HM0 : Hid ((((m.length : Nat) : Int) == 0) = false) := hm0
            have HL0 : Hid ((((l.length : Nat) : Int) == 0) = false) := hl0
            clear hL hM hm0 hl0
            go_enter Try.func14, Try.ntmps14
            go_upto_region 1 with (fail)
            obtain ⟨wx, hwx, bb, B0, hsz⟩ := vars1 w 27 #[.bool true, .slice A0 l.length c0, .slice D0 m.length e0]
            rw [hwx]
            clear hwx
            have k0s := h0.below bb
            have k0d := h1.below bb
            have k0z : IsZ wx (.agg #[.bool true, .slice A0 l.length c0]) z := isZ_mk (x := x) (by rw [← HLx.out]; exact k0s) HZA.out HZN.out
            have k0e : IsS wx .u64 (.slice D0 m.length e0) (digs 4294967296 d) := by rw [← HMd.out]; exact k0d
            refine flowp 29 [Pd.eq (.pointer (some ⟨w.heap.size, 0, none⟩)), Pd.eq (.pointer (some ⟨w.heap.size, 1, none⟩)), Pd.eq (.slice A0 l.length c0), Pd.eq (.bool true), Pd.eq (.bool false), Pd.eq (.bool false), Pd.eq (.pointer (some ⟨w.heap.size, 2, none⟩)), Pd.eq (.slice D0 m.length e0), Pd.eq (.bool true), Pd.eq (.bool false), Pd.eq (.bool false), Pd.eq (.bool false), Pd.eq (.pointer (some ⟨w.heap.size, 2, none⟩)), Pd.eq (.slice D0 m.length e0), Pd.eq (.int .i64 ((m.length : Nat) : Int)), Pd.eq (.bool false), Pd.eq (.bool false), Pd.eq (.bool false), Pd.eq (.pointer (some ⟨w.heap.size, 0, none⟩)), Pd.eq (.pointer (some ⟨w.heap.size, 0, none⟩)), Pd.eq (.bool true), Pd.eq (.bool true), Pd.eq (.pointer (some ⟨w.heap.size, 0, none⟩)), Pd.eq (.pointer (some ⟨w.heap.size, 1, none⟩)), Pd.eq (.slice A0 l.length c0), Pd.eq (.int .i64 ((l.length : Nat) : Int)), Pd.eq (.bool false), Pd.eq (.bool false), Pd.eq (.bool false)] (by kernel_rfl) ?ob5 ?done5
            case ob5 =>
              refine And.intro (ob_fieldAddr rfl (wt_none rfl) (ev_far rfl rfl) (fun _ => by kernel_rfl) (fun _ => rfl)) ?_
              refine And.intro (ob_fieldAddr rfl (wt_none rfl) (ev_dep (j := 0) (by kernel_rfl) rfl rfl) (fun _ => by kernel_rfl) (fun _ => rfl)) ?_
              refine And.intro (ob_load rfl (wt_none rfl) (ev_dep (j := 1) (by kernel_rfl) rfl rfl) (fun w2 hb => run_load1 Try.underlying23 rfl ((B0.below hb).cell 1)) (fun _ _ => rfl)) ?_
              refine And.intro (ob_call1 rfl Try.func35 (by kernel_rfl) (wt_none rfl) (ev_dep (j := 2) (by kernel_rfl) rfl rfl) (fun w2 u0 hb h0 => by obtain rfl := h0; exact (refMay_any _ l _ (k0s.below hb) HU0.out).mono fun e w3 h => ⟨.bool (mayB l), h.1, congrArg Value.bool HLb.out, by rw [← h.2]; exact Below.refl _ _⟩)) ?_
              refine And.intro (ob_un rfl (wt_none rfl) (ev_dep (j := 3) (by kernel_rfl) rfl rfl) (fun _ => un_not _ _) (fun _ => rfl)) ?_
              refine And.intro (ob_move rfl (wt_none rfl) (ev_dep (j := 4) (by kernel_rfl) rfl rfl) (fun _ _ h => h)) ?_
              refine And.intro (ob_fieldAddr rfl (wt_dep (c := false) (b := false) (g := 5) rfl (by kernel_rfl) rfl rfl rfl (by exact fun _ _ h => h)) (ev_far rfl rfl) (fun _ => by kernel_rfl) (fun _ => rfl)) ?_
              refine And.intro (ob_load rfl (wt_dep (c := false) (b := false) (g := 5) rfl (by kernel_rfl) rfl rfl rfl (by exact fun _ _ h => h)) (ev_dep (j := 6) (by kernel_rfl) rfl rfl) (fun w2 hb => run_load1 Try.underlying23 rfl ((B0.below hb).cell 2)) (fun _ _ => rfl)) ?_
              refine And.intro (ob_call1 rfl Try.func35 (by kernel_rfl) (wt_dep (c := false) (b := false) (g := 5) rfl (by kernel_rfl) rfl rfl rfl (by exact fun _ _ h => h)) (ev_dep (j := 7) (by kernel_rfl) rfl rfl) (fun w2 u0 hb h0 => by obtain rfl := h0; exact (refMay_any _ m _ (k0d.below hb) HU1.out).mono fun e w3 h => ⟨.bool (mayB m), h.1, congrArg Value.bool HMb.out, by rw [← h.2]; exact Below.refl _ _⟩)) ?_
              refine And.intro (ob_un rfl (wt_dep (c := false) (b := false) (g := 5) rfl (by kernel_rfl) rfl rfl rfl (by exact fun _ _ h => h)) (ev_dep (j := 8) (by kernel_rfl) rfl rfl) (fun _ => un_not _ _) (fun _ => rfl)) ?_
              refine And.intro (ob_pick (b := false) rfl (wt_none rfl) (ev_dep (j := 5) (by kernel_rfl) rfl rfl) (ev_dep (j := 9) (by kernel_rfl) rfl rfl) (fun _ _ h => h)) ?_
              refine And.intro (ob_move rfl (wt_none rfl) (ev_dep (j := 10) (by kernel_rfl) rfl rfl) (fun _ _ h => h)) ?_
              refine And.intro (ob_fieldAddr rfl (wt_dep (c := false) (b := false) (g := 11) rfl (by kernel_rfl) rfl rfl rfl (by exact fun _ _ h => h)) (ev_far rfl rfl) (fun _ => by kernel_rfl) (fun _ => rfl)) ?_
              refine And.intro (ob_load rfl (wt_dep (c := false) (b := false) (g := 11) rfl (by kernel_rfl) rfl rfl rfl (by exact fun _ _ h => h)) (ev_dep (j := 12) (by kernel_rfl) rfl rfl) (fun w2 hb => run_load1 Try.underlying23 rfl ((B0.below hb).cell 2)) (fun _ _ => rfl)) ?_
              refine And.intro (ob_len rfl (wt_dep (c := false) (b := false) (g := 11) rfl (by kernel_rfl) rfl rfl rfl (by exact fun _ _ h => h)) (ev_dep (j := 13) (by kernel_rfl) rfl rfl) (fun _ _ hx => ⟨_, by rw [hx]; exact len_slice Try.underlying23 _ _ _ _, rfl⟩)) ?_
              refine And.intro (ob_bin rfl (wt_dep (c := false) (b := false) (g := 11) rfl (by kernel_rfl) rfl rfl rfl (by exact fun _ _ h => h)) (ev_dep (j := 14) (by kernel_rfl) rfl rfl) (ev_const _) (fun _ _ _ hx hy => ⟨.bool false, by rw [hx, hy, bin_eql_int, HM0.out], rfl⟩)) ?_
              refine And.intro (ob_pick (b := false) rfl (wt_none rfl) (ev_dep (j := 11) (by kernel_rfl) rfl rfl) (ev_dep (j := 15) (by kernel_rfl) rfl rfl) (fun _ _ h => h)) ?_
              refine And.intro (ob_move rfl (wt_none rfl) (ev_dep (j := 16) (by kernel_rfl) rfl rfl) (fun _ _ h => h)) ?_
              refine And.intro (ob_fieldAddr rfl (wt_dep (c := false) (b := false) (g := 17) rfl (by kernel_rfl) rfl rfl rfl (by exact fun _ _ h => h)) (ev_far rfl rfl) (fun _ => by kernel_rfl) (fun _ => rfl)) ?_
              refine And.intro (ob_fieldAddr rfl (wt_dep (c := false) (b := false) (g := 17) rfl (by kernel_rfl) rfl rfl rfl (by exact fun _ _ h => h)) (ev_dep (j := 18) (by kernel_rfl) rfl rfl) (fun _ => by kernel_rfl) (fun _ => rfl)) ?_
              refine And.intro (ob_load rfl (wt_dep (c := false) (b := false) (g := 17) rfl (by kernel_rfl) rfl rfl rfl (by exact fun _ _ h => h)) (ev_dep (j := 19) (by kernel_rfl) rfl rfl) (fun w2 hb => run_load1 Try.underlying4 rfl ((B0.below hb).cell 0)) (fun _ _ => rfl)) ?_
              refine And.intro (ob_move rfl (wt_dep (c := false) (b := false) (g := 17) rfl (by kernel_rfl) rfl rfl rfl (by exact fun _ _ h => h)) (ev_dep (j := 20) (by kernel_rfl) rfl rfl) (fun _ _ h => h)) ?_
              refine And.intro (ob_fieldAddr rfl (wt_dep (c := true) (b := true) (g := 21) rfl (by kernel_rfl) rfl rfl rfl (by exact fun _ _ h => h)) (ev_far rfl rfl) (fun _ => by kernel_rfl) (fun _ => rfl)) ?_
              refine And.intro (ob_fieldAddr rfl (wt_dep (c := true) (b := true) (g := 21) rfl (by kernel_rfl) rfl rfl rfl (by exact fun _ _ h => h)) (ev_dep (j := 22) (by kernel_rfl) rfl rfl) (fun _ => by kernel_rfl) (fun _ => rfl)) ?_
              refine And.intro (ob_load rfl (wt_dep (c := true) (b := true) (g := 21) rfl (by kernel_rfl) rfl rfl rfl (by exact fun _ _ h => h)) (ev_dep (j := 23) (by kernel_rfl) rfl rfl) (fun w2 hb => run_load1 Try.underlying23 rfl ((B0.below hb).cell 1)) (fun _ _ => rfl)) ?_
              refine And.intro (ob_len rfl (wt_dep (c := true) (b := true) (g := 21) rfl (by kernel_rfl) rfl rfl rfl (by exact fun _ _ h => h)) (ev_dep (j := 24) (by kernel_rfl) rfl rfl) (fun _ _ hx => ⟨_, by rw [hx]; exact len_slice Try.underlying23 _ _ _ _, rfl⟩)) ?_
              refine And.intro (ob_bin rfl (wt_dep (c := true) (b := true) (g := 21) rfl (by kernel_rfl) rfl rfl rfl (by exact fun _ _ h => h)) (ev_dep (j := 25) (by kernel_rfl) rfl rfl) (ev_const _) (fun _ _ _ hx hy => ⟨.bool false, by rw [hx, hy, bin_eql_int, HL0.out], rfl⟩)) ?_
              refine And.intro (ob_pick (b := true) rfl (wt_dep (c := false) (b := false) (g := 17) rfl (by kernel_rfl) rfl rfl rfl (by exact fun _ _ h => h)) (ev_dep (j := 21) (by kernel_rfl) rfl rfl) (ev_dep (j := 26) (by kernel_rfl) rfl rfl) (fun _ _ h => h)) ?_
              refine And.intro (ob_pick (b := false) rfl (wt_none rfl) (ev_dep (j := 17) (by kernel_rfl) rfl rfl) (ev_dep (j := 27) (by kernel_rfl) rfl rfl) (fun _ _ h => h)) ?_
              trivial
            case done5 =>
              refine fun w1 hb1 v0 h0 v1 h1 v2 h2 v3 h3 v4 h4 v5 h5 v6 h6 v7 h7 v8 h8 v9 h9 v10 h10 v11 h11 v12 h12 v13 h13 v14 h14 v15 h15 v16 h16 v17 h17 v18 h18 v19 h19 v20 h20 v21 h21 v22 h22 v23 h23 v24 h24 v25 h25 v26 h26 v27 h27 v28 h28 b hbf => ?_
              obtain rfl := h0; obtain rfl := h1; obtain rfl := h2; obtain rfl := h3; obtain rfl := h4; obtain rfl := h5; obtain rfl := h6; obtain rfl := h7; obtain rfl := h8; obtain rfl := h9; obtain rfl := h10; obtain rfl := h11; obtain rfl := h12; obtain rfl := h13; obtain rfl := h14; obtain rfl := h15; obtain rfl := h16; obtain rfl := h17; obtain rfl := h18; obtain rfl := h19; obtain rfl := h20; obtain rfl := h21; obtain rfl := h22; obtain rfl := h23; obtain rfl := h24; obtain rfl := h25; obtain rfl := h26; obtain rfl := h27; obtain rfl := h28
              simp only [Act.put, List.setIfInBounds_toArray, List.set_cons_zero, List.set_cons_succ] at hbf
              subst hbf
              replace B0 := B0.below hb1
              replace k0s := k0s.below hb1
              replace k0d := k0d.below hb1
              replace k0z := k0z.below hb1
              replace k0e := k0e.below hb1
              replace bb := bb.trans (hb1.mono bb.size)
              have hsz1 := bb.size
              refine ops_done ?_
              go_upto_region 3 with (fail)
              refine flow 11 [Pd.eq (.pointer (some ⟨w.heap.size, 0, none⟩)), Pd.eq (.agg #[.bool true, .slice A0 l.length c0]), pr (z), Pd.eq (.pointer (some ⟨w.heap.size, 2, none⟩)), Pd.eq (.slice D0 m.length e0), ps .i64 (digs 10000 d) w1.heap.size, pp (Q), pqn Q, Pd.eq (.agg #[.bool true, .slice A0 l.length c0, .slice D0 m.length e0]), Pd.eq (.bool v), Pd.eq (.bool v)] (by kernel_rfl) (by kernel_rfl) ?ob6 ?done6
              case ob6 =>
                refine And.intro (ob_fieldAddr rfl (wt_none rfl) (ev_far rfl rfl) (fun _ => by kernel_rfl) (fun _ => rfl)) ?_
                refine And.intro (ob_load rfl (wt_none rfl) (ev_dep (j := 0) (by kernel_rfl) rfl rfl) (fun w2 hb => run_loadPart Try.underlying25 rfl (by kernel_rfl) (B0.drew.below hb) rfl) (fun _ _ => rfl)) ?_
                refine And.intro (ob_call1 rfl Try.func8 (by kernel_rfl) (wt_none rfl) (ev_dep (j := 1) (by kernel_rfl) rfl rfl) (fun w2 u0 hb h0 => by obtain rfl := h0; exact (rof_any _ z _ (k0z.drew.below hb) HLZ.out).mono fun e w3 h => RetR.pd h)) ?_
                refine And.intro (ob_fieldAddr rfl (wt_none rfl) (ev_far rfl rfl) (fun _ => by kernel_rfl) (fun _ => rfl)) ?_
                refine And.intro (ob_load rfl (wt_none rfl) (ev_dep (j := 3) (by kernel_rfl) rfl rfl) (fun w2 hb => run_load1 Try.underlying23 rfl ((B0.drew.below hb).cell 2)) (fun _ _ => rfl)) ?_
                refine And.intro (ob_call1 rfl Try.func25 (by kernel_rfl) (wt_none rfl) (ev_dep (j := 4) (by kernel_rfl) rfl rfl) (fun w2 u0 hb h0 => by obtain rfl := h0; exact (refOf_any _ d _ (k0e.drew.below hb) (Nat.le_trans HLD.out (by decide))).mono fun e w3 h => RetS.pd h hb.size)) ?_
                refine And.intro (ob_call2 rfl Try.func11 (by kernel_rfl) (wt_none rfl) (ev_dep (j := 2) (by kernel_rfl) rfl rfl) (ev_dep (j := 5) (by kernel_rfl) rfl rfl) (fun w2 u0 u1 hb h0 h1 => by exact (HQ.out ▸ rlow_any _ z _ d _ h0 h1.1 hd0 HLZ.out HLD.out).mono fun e w3 h => RetPF.pd h)) ?_
                refine And.intro (ob_call1 rfl Try.func10 (by kernel_rfl) (wt_none rfl) (ev_dep (j := 6) (by kernel_rfl) rfl rfl) (fun w2 u0 hb h0 => by exact (qback_any _ Q _ h0 lQ).mono fun e w3 h => RetQn.pd (RetQ.n h))) ?_
                refine And.intro (ob_load rfl (wt_none rfl) (ev_far rfl rfl) (fun w2 hb => run_loadAll Try.underlying27 rfl (by kernel_rfl) (B0.drew.below hb)) (fun _ _ => rfl)) ?_
                refine And.intro (ob_call2 rfl Try.func12 (by kernel_rfl) (wt_none rfl) (ev_dep (j := 7) (by kernel_rfl) rfl rfl) (ev_dep (j := 8) (by kernel_rfl) rfl rfl) (fun w2 u0 u1 hb h0 h1 => by obtain ⟨u', t', rfl, s', r'⟩ := h0; obtain rfl := h1; exact (qsamez_any _ _ _ _ _ _ Q.num z Q.den d v _ ⟨_, rfl, s'⟩ r' (k0z.drew.below hb) (k0e.drew.below hb) HV.out).mono fun e w3 h => RetV.pd h)) ?_
                refine And.intro (ob_assign rfl (wt_none rfl) (ev_dep (j := 9) (by kernel_rfl) rfl rfl) (fun _ _ h => h)) ?_
                trivial
              case done6 =>
                refine fun w2 hb2 v0 h0 v1 h1 v2 h2 v3 h3 v4 h4 v5 h5 v6 h6 v7 h7 v8 h8 v9 h9 v10 h10 b hbf => ?_
                obtain rfl := h0; obtain rfl := h1; obtain rfl := h3; obtain rfl := h4; obtain rfl := h8; obtain rfl := h9; obtain rfl := h10
                have q2 := h2
                obtain ⟨q5, f5⟩ := h5
                have q6 := h6
                have q7 := h7
                simp only [Act.put, List.setIfInBounds_toArray, List.set_cons_zero, List.set_cons_succ] at hbf
                subst hbf
                replace B0 := B0.below hb2
                replace k0s := k0s.below hb2
                replace k0d := k0d.below hb2
                replace k0z := k0z.below hb2
                replace k0e := k0e.below hb2
                replace bb := bb.trans (hb2.mono bb.size)
                have hsz2 := bb.size
                refine any_done (by kernel_rfl) ?_
                go_wp2
                go_ret
                exact ⟨rfl, bb⟩
          · obtain rfl : v = false := by rw [hv]; unfold mayQ; rw [hL, hM, hm0, hl0]; rfl
            clear hv
            have HLb := Lib.hid hL
            have HMb := Lib.hid hM
            have HM0 : Hid ((((m.length : Nat) : Int) == 0) = false) := hm0
            have HL0 : Hid ((((l.length : Nat) : Int) == 0) = true) := hl0
            clear hL hM hm0 hl0
            go_enter Try.func14, Try.ntmps14
            go_upto_region 1 with (fail)
            obtain ⟨wx, hwx, bb, B0, hsz⟩ := vars1 w 27 #[.bool true, .slice A0 l.length c0, .slice D0 m.length e0]
            rw [hwx]
            clear hwx
            have k0s := h0.below bb
            have k0d := h1.below bb
            refine flowp 29 [Pd.eq (.pointer (some ⟨w.heap.size, 0, none⟩)), Pd.eq (.pointer (some ⟨w.heap.size, 1, none⟩)), Pd.eq (.slice A0 l.length c0), Pd.eq (.bool true), Pd.eq (.bool false), Pd.eq (.bool false), Pd.eq (.pointer (some ⟨w.heap.size, 2, none⟩)), Pd.eq (.slice D0 m.length e0), Pd.eq (.bool true), Pd.eq (.bool false), Pd.eq (.bool false), Pd.eq (.bool false), Pd.eq (.pointer (some ⟨w.heap.size, 2, none⟩)), Pd.eq (.slice D0 m.length e0), Pd.eq (.int .i64 ((m.length : Nat) : Int)), Pd.eq (.bool false), Pd.eq (.bool false), Pd.eq (.bool false), Pd.eq (.pointer (some ⟨w.heap.size, 0, none⟩)), Pd.eq (.pointer (some ⟨w.heap.size, 0, none⟩)), Pd.eq (.bool true), Pd.eq (.bool true), Pd.eq (.pointer (some ⟨w.heap.size, 0, none⟩)), Pd.eq (.pointer (some ⟨w.heap.size, 1, none⟩)), Pd.eq (.slice A0 l.length c0), Pd.eq (.int .i64 ((l.length : Nat) : Int)), Pd.eq (.bool true), Pd.eq (.bool true), Pd.eq (.bool true)] (by kernel_rfl) ?ob7 ?done7
            case ob7 =>
              refine And.intro (ob_fieldAddr rfl (wt_none rfl) (ev_far rfl rfl) (fun _ => by kernel_rfl) (fun _ => rfl)) ?_
              refine And.intro (ob_fieldAddr rfl (wt_none rfl) (ev_dep (j := 0) (by kernel_rfl) rfl rfl) (fun _ => by kernel_rfl) (fun _ => rfl)) ?_
              refine And.intro (ob_load rfl (wt_none rfl) (ev_dep (j := 1) (by kernel_rfl) rfl rfl) (fun w2 hb => run_load1 Try.underlying23 rfl ((B0.below hb).cell 1)) (fun _ _ => rfl)) ?_
              refine And.intro (ob_call1 rfl Try.func35 (by kernel_rfl) (wt_none rfl) (ev_dep (j := 2) (by kernel_rfl) rfl rfl) (fun w2 u0 hb h0 => by obtain rfl := h0; exact (refMay_any _ l _ (k0s.below hb) HU0.out).mono fun e w3 h => ⟨.bool (mayB l), h.1, congrArg Value.bool HLb.out, by rw [← h.2]; exact Below.refl _ _⟩)) ?_
              refine And.intro (ob_un rfl (wt_none rfl) (ev_dep (j := 3) (by kernel_rfl) rfl rfl) (fun _ => un_not _ _) (fun _ => rfl)) ?_
              refine And.intro (ob_move rfl (wt_none rfl) (ev_dep (j := 4) (by kernel_rfl) rfl rfl) (fun _ _ h => h)) ?_
              refine And.intro (ob_fieldAddr rfl (wt_dep (c := false) (b := false) (g := 5) rfl (by kernel_rfl) rfl rfl rfl (by exact fun _ _ h => h)) (ev_far rfl rfl) (fun _ => by kernel_rfl) (fun _ => rfl)) ?_
              refine And.intro (ob_load rfl (wt_dep (c := false) (b := false) (g := 5) rfl (by kernel_rfl) rfl rfl rfl (by exact fun _ _ h => h)) (ev_dep (j := 6) (by kernel_rfl) rfl rfl) (fun w2 hb => run_load1 Try.underlying23 rfl ((B0.below hb).cell 2)) (fun _ _ => rfl)) ?_
              refine And.intro (ob_call1 rfl Try.func35 (by kernel_rfl) (wt_dep (c := false) (b := false) (g := 5) rfl (by kernel_rfl) rfl rfl rfl (by exact fun _ _ h => h)) (ev_dep (j := 7) (by kernel_rfl) rfl rfl) (fun w2 u0 hb h0 => by obtain rfl := h0; exact (refMay_any _ m _ (k0d.below hb) HU1.out).mono fun e w3 h => ⟨.bool (mayB m), h.1, congrArg Value.bool HMb.out, by rw [← h.2]; exact Below.refl _ _⟩)) ?_
              refine And.intro (ob_un rfl (wt_dep (c := false) (b := false) (g := 5) rfl (by kernel_rfl) rfl rfl rfl (by exact fun _ _ h => h)) (ev_dep (j := 8) (by kernel_rfl) rfl rfl) (fun _ => un_not _ _) (fun _ => rfl)) ?_
              refine And.intro (ob_pick (b := false) rfl (wt_none rfl) (ev_dep (j := 5) (by kernel_rfl) rfl rfl) (ev_dep (j := 9) (by kernel_rfl) rfl rfl) (fun _ _ h => h)) ?_
              refine And.intro (ob_move rfl (wt_none rfl) (ev_dep (j := 10) (by kernel_rfl) rfl rfl) (fun _ _ h => h)) ?_
              refine And.intro (ob_fieldAddr rfl (wt_dep (c := false) (b := false) (g := 11) rfl (by kernel_rfl) rfl rfl rfl (by exact fun _ _ h => h)) (ev_far rfl rfl) (fun _ => by kernel_rfl) (fun _ => rfl)) ?_
              refine And.intro (ob_load rfl (wt_dep (c := false) (b := false) (g := 11) rfl (by kernel_rfl) rfl rfl rfl (by exact fun _ _ h => h)) (ev_dep (j := 12) (by kernel_rfl) rfl rfl) (fun w2 hb => run_load1 Try.underlying23 rfl ((B0.below hb).cell 2)) (fun _ _ => rfl)) ?_
              refine And.intro (ob_len rfl (wt_dep (c := false) (b := false) (g := 11) rfl (by kernel_rfl) rfl rfl rfl (by exact fun _ _ h => h)) (ev_dep (j := 13) (by kernel_rfl) rfl rfl) (fun _ _ hx => ⟨_, by rw [hx]; exact len_slice Try.underlying23 _ _ _ _, rfl⟩)) ?_
              refine And.intro (ob_bin rfl (wt_dep (c := false) (b := false) (g := 11) rfl (by kernel_rfl) rfl rfl rfl (by exact fun _ _ h => h)) (ev_dep (j := 14) (by kernel_rfl) rfl rfl) (ev_const _) (fun _ _ _ hx hy => ⟨.bool false, by rw [hx, hy, bin_eql_int, HM0.out], rfl⟩)) ?_
              refine And.intro (ob_pick (b := false) rfl (wt_none rfl) (ev_dep (j := 11) (by kernel_rfl) rfl rfl) (ev_dep (j := 15) (by kernel_rfl) rfl rfl) (fun _ _ h => h)) ?_
              refine And.intro (ob_move rfl (wt_none rfl) (ev_dep (j := 16) (by kernel_rfl) rfl rfl) (fun _ _ h => h)) ?_
              refine And.intro (ob_fieldAddr rfl (wt_dep (c := false) (b := false) (g := 17) rfl (by kernel_rfl) rfl rfl rfl (by exact fun _ _ h => h)) (ev_far rfl rfl) (fun _ => by kernel_rfl) (fun _ => rfl)) ?_
              refine And.intro (ob_fieldAddr rfl (wt_dep (c := false) (b := false) (g := 17) rfl (by kernel_rfl) rfl rfl rfl (by exact fun _ _ h => h)) (ev_dep (j := 18) (by kernel_rfl) rfl rfl) (fun _ => by kernel_rfl) (fun _ => rfl)) ?_
              refine And.intro (ob_load rfl (wt_dep (c := false) (b := false) (g := 17) rfl (by kernel_rfl) rfl rfl rfl (by exact fun _ _ h => h)) (ev_dep (j := 19) (by kernel_rfl) rfl rfl) (fun w2 hb => run_load1 Try.underlying4 rfl ((B0.below hb).cell 0)) (fun _ _ => rfl)) ?_
              refine And.intro (ob_move rfl (wt_dep (c := false) (b := false) (g := 17) rfl (by kernel_rfl) rfl rfl rfl (by exact fun _ _ h => h)) (ev_dep (j := 20) (by kernel_rfl) rfl rfl) (fun _ _ h => h)) ?_
              refine And.intro (ob_fieldAddr rfl (wt_dep (c := true) (b := true) (g := 21) rfl (by kernel_rfl) rfl rfl rfl (by exact fun _ _ h => h)) (ev_far rfl rfl) (fun _ => by kernel_rfl) (fun _ => rfl)) ?_
              refine And.intro (ob_fieldAddr rfl (wt_dep (c := true) (b := true) (g := 21) rfl (by kernel_rfl) rfl rfl rfl (by exact fun _ _ h => h)) (ev_dep (j := 22) (by kernel_rfl) rfl rfl) (fun _ => by kernel_rfl) (fun _ => rfl)) ?_
              refine And.intro (ob_load rfl (wt_dep (c := true) (b := true) (g := 21) rfl (by kernel_rfl) rfl rfl rfl (by exact fun _ _ h => h)) (ev_dep (j := 23) (by kernel_rfl) rfl rfl) (fun w2 hb => run_load1 Try.underlying23 rfl ((B0.below hb).cell 1)) (fun _ _ => rfl)) ?_
              refine And.intro (ob_len rfl (wt_dep (c := true) (b := true) (g := 21) rfl (by kernel_rfl) rfl rfl rfl (by exact fun _ _ h => h)) (ev_dep (j := 24) (by kernel_rfl) rfl rfl) (fun _ _ hx => ⟨_, by rw [hx]; exact len_slice Try.underlying23 _ _ _ _, rfl⟩)) ?_
              refine And.intro (ob_bin rfl (wt_dep (c := true) (b := true) (g := 21) rfl (by kernel_rfl) rfl rfl rfl (by exact fun _ _ h => h)) (ev_dep (j := 25) (by kernel_rfl) rfl rfl) (ev_const _) (fun _ _ _ hx hy => ⟨.bool true, by rw [hx, hy, bin_eql_int, HL0.out], rfl⟩)) ?_
              refine And.intro (ob_pick (b := true) rfl (wt_dep (c := false) (b := false) (g := 17) rfl (by kernel_rfl) rfl rfl rfl (by exact fun _ _ h => h)) (ev_dep (j := 21) (by kernel_rfl) rfl rfl) (ev_dep (j := 26) (by kernel_rfl) rfl rfl) (fun _ _ h => h)) ?_
              refine And.intro (ob_pick (b := false) rfl (wt_none rfl) (ev_dep (j := 17) (by kernel_rfl) rfl rfl) (ev_dep (j := 27) (by kernel_rfl) rfl rfl) (fun _ _ h => h)) ?_
              trivial
            case done7 =>
              refine fun w1 hb1 v0 h0 v1 h1 v2 h2 v3 h3 v4 h4 v5 h5 v6 h6 v7 h7 v8 h8 v9 h9 v10 h10 v11 h11 v12 h12 v13 h13 v14 h14 v15 h15 v16 h16 v17 h17 v18 h18 v19 h19 v20 h20 v21 h21 v22 h22 v23 h23 v24 h24 v25 h25 v26 h26 v27 h27 v28 h28 b hbf => ?_
              obtain rfl := h0; obtain rfl := h1; obtain rfl := h2; obtain rfl := h3; obtain rfl := h4; obtain rfl := h5; obtain rfl := h6; obtain rfl := h7; obtain rfl := h8; obtain rfl := h9; obtain rfl := h10; obtain rfl := h11; obtain rfl := h12; obtain rfl := h13; obtain rfl := h14; obtain rfl := h15; obtain rfl := h16; obtain rfl := h17; obtain rfl := h18; obtain rfl := h19; obtain rfl := h20; obtain rfl := h21; obtain rfl := h22; obtain rfl := h23; obtain rfl := h24; obtain rfl := h25; obtain rfl := h26; obtain rfl := h27; obtain rfl := h28
              simp only [Act.put, List.setIfInBounds_toArray, List.set_cons_zero, List.set_cons_succ] at hbf
              subst hbf
              replace B0 := B0.below hb1
              replace k0s := k0s.below hb1
              replace k0d := k0d.below hb1
              replace bb := bb.trans (hb1.mono bb.size)
              have hsz1 := bb.size
              refine ops_done ?_
              go_wp2
              go_ret
              exact ⟨rfl, bb⟩
      · obtain rfl : v = false := by rw [hv]; unfold mayQ; rw [hL, hM, hm0]; rfl
        clear hv
        have HLb := Lib.hid hL
        have HMb := Lib.hid hM
        have HM0 : Hid ((((m.length : Nat) : Int) == 0) = true) := hm0
        clear hL hM hm0
        go_enter Try.func14, Try.ntmps14
        go_upto_region 1 with (fail)
        obtain ⟨wx, hwx, bb, B0, hsz⟩ := vars1 w 27 #[.bool b, .slice A0 l.length c0, .slice D0 m.length e0]
        rw [hwx]
        clear hwx
        have k0s := h0.below bb
        have k0d := h1.below bb
        refine flowp 29 [Pd.eq (.pointer (some ⟨w.heap.size, 0, none⟩)), Pd.eq (.pointer (some ⟨w.heap.size, 1, none⟩)), Pd.eq (.slice A0 l.length c0), Pd.eq (.bool true), Pd.eq (.bool false), Pd.eq (.bool false), Pd.eq (.pointer (some ⟨w.heap.size, 2, none⟩)), Pd.eq (.slice D0 m.length e0), Pd.eq (.bool true), Pd.eq (.bool false), Pd.eq (.bool false), Pd.eq (.bool false), Pd.eq (.pointer (some ⟨w.heap.size, 2, none⟩)), Pd.eq (.slice D0 m.length e0), Pd.eq (.int .i64 ((m.length : Nat) : Int)), Pd.eq (.bool true), Pd.eq (.bool true), Pd.eq (.bool true), Pd.any, Pd.any, Pd.any, Pd.eq (undef), Pd.any, Pd.any, Pd.any, Pd.any, Pd.any, Pd.any, Pd.eq (.bool true)] (by kernel_rfl) ?ob10 ?done10
        case ob10 =>
          refine And.intro (ob_fieldAddr rfl (wt_none rfl) (ev_far rfl rfl) (fun _ => by kernel_rfl) (fun _ => rfl)) ?_
          refine And.intro (ob_fieldAddr rfl (wt_none rfl) (ev_dep (j := 0) (by kernel_rfl) rfl rfl) (fun _ => by kernel_rfl) (fun _ => rfl)) ?_
          refine And.intro (ob_load rfl (wt_none rfl) (ev_dep (j := 1) (by kernel_rfl) rfl rfl) (fun w2 hb => run_load1 Try.underlying23 rfl ((B0.below hb).cell 1)) (fun _ _ => rfl)) ?_
          refine And.intro (ob_call1 rfl Try.func35 (by kernel_rfl) (wt_none rfl) (ev_dep (j := 2) (by kernel_rfl) rfl rfl) (fun w2 u0 hb h0 => by obtain rfl := h0; exact (refMay_any _ l _ (k0s.below hb) HU0.out).mono fun e w3 h => ⟨.bool (mayB l), h.1, congrArg Value.bool HLb.out, by rw [← h.2]; exact Below.refl _ _⟩)) ?_
          refine And.intro (ob_un rfl (wt_none rfl) (ev_dep (j := 3) (by kernel_rfl) rfl rfl) (fun _ => un_not _ _) (fun _ => rfl)) ?_
          refine And.intro (ob_move rfl (wt_none rfl) (ev_dep (j := 4) (by kernel_rfl) rfl rfl) (fun _ _ h => h)) ?_
          refine And.intro (ob_fieldAddr rfl (wt_dep (c := false) (b := false) (g := 5) rfl (by kernel_rfl) rfl rfl rfl (by exact fun _ _ h => h)) (ev_far rfl rfl) (fun _ => by kernel_rfl) (fun _ => rfl)) ?_
          refine And.intro (ob_load rfl (wt_dep (c := false) (b := false) (g := 5) rfl (by kernel_rfl) rfl rfl rfl (by exact fun _ _ h => h)) (ev_dep (j := 6) (by kernel_rfl) rfl rfl) (fun w2 hb => run_load1 Try.underlying23 rfl ((B0.below hb).cell 2)) (fun _ _ => rfl)) ?_
          refine And.intro (ob_call1 rfl Try.func35 (by kernel_rfl) (wt_dep (c := false) (b := false) (g := 5) rfl (by kernel_rfl) rfl rfl rfl (by exact fun _ _ h => h)) (ev_dep (j := 7) (by kernel_rfl) rfl rfl) (fun w2 u0 hb h0 => by obtain rfl := h0; exact (refMay_any _ m _ (k0d.below hb) HU1.out).mono fun e w3 h => ⟨.bool (mayB m), h.1, congrArg Value.bool HMb.out, by rw [← h.2]; exact Below.refl _ _⟩)) ?_
          refine And.intro (ob_un rfl (wt_dep (c := false) (b := false) (g := 5) rfl (by kernel_rfl) rfl rfl rfl (by exact fun _ _ h => h)) (ev_dep (j := 8) (by kernel_rfl) rfl rfl) (fun _ => un_not _ _) (fun _ => rfl)) ?_
          refine And.intro (ob_pick (b := false) rfl (wt_none rfl) (ev_dep (j := 5) (by kernel_rfl) rfl rfl) (ev_dep (j := 9) (by kernel_rfl) rfl rfl) (fun _ _ h => h)) ?_
          refine And.intro (ob_move rfl (wt_none rfl) (ev_dep (j := 10) (by kernel_rfl) rfl rfl) (fun _ _ h => h)) ?_
          refine And.intro (ob_fieldAddr rfl (wt_dep (c := false) (b := false) (g := 11) rfl (by kernel_rfl) rfl rfl rfl (by exact fun _ _ h => h)) (ev_far rfl rfl) (fun _ => by kernel_rfl) (fun _ => rfl)) ?_
          refine And.intro (ob_load rfl (wt_dep (c := false) (b := false) (g := 11) rfl (by kernel_rfl) rfl rfl rfl (by exact fun _ _ h => h)) (ev_dep (j := 12) (by kernel_rfl) rfl rfl) (fun w2 hb => run_load1 Try.underlying23 rfl ((B0.below hb).cell 2)) (fun _ _ => rfl)) ?_
          refine And.intro (ob_len rfl (wt_dep (c := false) (b := false) (g := 11) rfl (by kernel_rfl) rfl rfl rfl (by exact fun _ _ h => h)) (ev_dep (j := 13) (by kernel_rfl) rfl rfl) (fun _ _ hx => ⟨_, by rw [hx]; exact len_slice Try.underlying23 _ _ _ _, rfl⟩)) ?_
          refine And.intro (ob_bin rfl (wt_dep (c := false) (b := false) (g := 11) rfl (by kernel_rfl) rfl rfl rfl (by exact fun _ _ h => h)) (ev_dep (j := 14) (by kernel_rfl) rfl rfl) (ev_const _) (fun _ _ _ hx hy => ⟨.bool true, by rw [hx, hy, bin_eql_int, HM0.out], rfl⟩)) ?_
          refine And.intro (ob_pick (b := false) rfl (wt_none rfl) (ev_dep (j := 11) (by kernel_rfl) rfl rfl) (ev_dep (j := 15) (by kernel_rfl) rfl rfl) (fun _ _ h => h)) ?_
          refine And.intro (ob_move rfl (wt_none rfl) (ev_dep (j := 16) (by kernel_rfl) rfl rfl) (fun _ _ h => h)) ?_
          refine And.intro (ob_not (wt_dep (c := true) (b := false) (g := 17) rfl (by kernel_rfl) rfl rfl rfl (by exact fun _ _ h => h)) (fun _ => trivial) rfl) ?_
          refine And.intro (ob_not (wt_dep (c := true) (b := false) (g := 17) rfl (by kernel_rfl) rfl rfl rfl (by exact fun _ _ h => h)) (fun _ => trivial) rfl) ?_
          refine And.intro (ob_not (wt_dep (c := true) (b := false) (g := 17) rfl (by kernel_rfl) rfl rfl rfl (by exact fun _ _ h => h)) (fun _ => trivial) rfl) ?_
          refine And.intro (ob_not (wt_dep (c := true) (b := false) (g := 17) rfl (by kernel_rfl) rfl rfl rfl (by exact fun _ _ h => h)) (fun _ => rfl) rfl) ?_
          refine And.intro (ob_not (wt_undef (b := true) (g := 21) rfl (by kernel_rfl) rfl rfl rfl (by exact fun _ _ h => h)) (fun _ => trivial) rfl) ?_
          refine And.intro (ob_not (wt_undef (b := true) (g := 21) rfl (by kernel_rfl) rfl rfl rfl (by exact fun _ _ h => h)) (fun _ => trivial) rfl) ?_
          refine And.intro (ob_not (wt_undef (b := true) (g := 21) rfl (by kernel_rfl) rfl rfl rfl (by exact fun _ _ h => h)) (fun _ => trivial) rfl) ?_
          refine And.intro (ob_not (wt_undef (b := true) (g := 21) rfl (by kernel_rfl) rfl rfl rfl (by exact fun _ _ h => h)) (fun _ => trivial) rfl) ?_
          refine And.intro (ob_not (wt_undef (b := true) (g := 21) rfl (by kernel_rfl) rfl rfl rfl (by exact fun _ _ h => h)) (fun _ => trivial) rfl) ?_
          refine And.intro (ob_not (wt_dep (c := true) (b := false) (g := 17) rfl (by kernel_rfl) rfl rfl rfl (by exact fun _ _ h => h)) (fun _ => trivial) rfl) ?_
          refine And.intro (ob_pick (b := true) rfl (wt_none rfl) (ev_dep (j := 17) (by kernel_rfl) rfl rfl) (ev_const _) (fun _ _ h => h)) ?_
          trivial
        case done10 =>
          refine fun w1 hb1 v0 h0 v1 h1 v2 h2 v3 h3 v4 h4 v5 h5 v6 h6 v7 h7 v8 h8 v9 h9 v10 h10 v11 h11 v12 h12 v13 h13 v14 h14 v15 h15 v16 h16 v17 h17 v18 h18 v19 h19 v20 h20 v21 h21 v22 h22 v23 h23 v24 h24 v25 h25 v26 h26 v27 h27 v28 h28 b hbf => ?_
          obtain rfl := h0; obtain rfl := h1; obtain rfl := h2; obtain rfl := h3; obtain rfl := h4; obtain rfl := h5; obtain rfl := h6; obtain rfl := h7; obtain rfl := h8; obtain rfl := h9; obtain rfl := h10; obtain rfl := h11; obtain rfl := h12; obtain rfl := h13; obtain rfl := h14; obtain rfl := h15; obtain rfl := h16; obtain rfl := h17; obtain rfl := h21; obtain rfl := h28
          clear h18
          clear h19
          clear h20
          clear h22
          clear h23
          clear h24
          clear h25
          clear h26
          clear h27
          simp only [Act.put, List.setIfInBounds_toArray, List.set_cons_zero, List.set_cons_succ] at hbf
          subst hbf
          replace B0 := B0.below hb1
          replace k0s := k0s.below hb1
          replace k0d := k0d.below hb1
          replace bb := bb.trans (hb1.mono bb.size)
          have hsz1 := bb.size
          refine ops_done ?_
          go_wp2
          go_ret
          exact ⟨rfl, bb⟩

end Go.Proofs.Ytbebmknfecehnaa.rat
