/- Package vect: noughts, Zero, Unit. Condition: as each says.
Package vect: vanishes, Scale, Dot, Lead. Condition: as each says.
Rows written out in a region: two fractions, two rows of fractions; as obligations of its flow. Condition: as each says.
Package vect: Add. Condition: as each says.
The chapter's example of layer 11.
Few: two rows of fractions out of an argument. Condition: as it says. -/
import Derived.Test.YtodpjmbclmlieaaK3
namespace Go.Proofs.Ytodpjmbclmlieaa.rat
open Go.RowKit Go.Proofs.Ytodpjmbclmlieaa.num Go.Proofs.Ytodpjmbclmlieaa.mem Go.Proofs.Ytodpjmbclmlieaa.nat Go.Proofs.Ytodpjmbclmlieaa.txt Go.Proofs.Ytodpjmbclmlieaa.str Go.Proofs.Ytodpjmbclmlieaa.flow Go.Proofs.Ytodpjmbclmlieaa.whl
set_option linter.unusedVariables false
set_option linter.unusedSimpArgs false
/-- The whole numbers 0 and 1 as fractions. -/
theorem RatV_of0 (w : World) : Calls Try.prog 9 #[.int .i64 0] w (RetQ (0 : Rat) w) := of8_any 0 w (by omega) (by omega)
theorem RatV_of1 (w : World) : Calls Try.prog 9 #[.int .i64 1] w (RetQ (1 : Rat) w) := of8_any 1 w (by omega) (by omega)
/-- A row of these, made by the call. -/
def RetRo (qs : List Rat) (w : World) (e : Ending) (w' : World) : Prop := ∃ g, e = .returned (.slice (some ⟨g, 0, none⟩) qs.length qs.length) ∧ RowN w' g qs.length qs ∧ w.heap.size ≤ g ∧ Below w.heap.size w w'
theorem RetRo.pd {n : Nat} {qs : List Rat} {w : World} {e : Ending} {w' : World} {B : Nat} (h : RetRo qs w e w') (hn : qs.length = n) (hB : B ≤ w.heap.size) : RetPd (pro n qs B) w e w' := by
  obtain ⟨g, h1, h2, h3, h4⟩ := h
  rw [hn] at h1 h2
  exact ⟨_, h1, ⟨g, rfl, h2, Nat.le_trans hB h3⟩, h4⟩
theorem RetRN.qle {qs : List Rat} {w : World} {e : Ending} {w' : World} (h : RetRN qs w e w') (hl : qs.length ≤ 1000000000) : RetQLE qs 0 w e w' := by
  obtain ⟨g, he, hR, _, hb⟩ := h
  exact ⟨_, he, by rw [if_pos rfl]; exact hR.sl rfl hl, hb⟩
theorem RetNN.qle {n : Int} {w : World} {e : Ending} {w' : World} (h : RetNN n w e w') : RetQLE [] n w e w' :=
  ⟨_, h.1, by split <;> exact slF_nil _ _ _, h.2⟩
set_option maxHeartbeats 3200000 in
set_option maxRecDepth 100000 in
theorem noughts_any (n : Int) (d : Nat) (w : World) (hn : n = (d : Int)) (hd : d ≤ 200) :
    Calls Try.prog 19 #[.int .i64 n] w (RetRo (zerosq d) w) := by
  have bb : Below w.heap.size w w := Below.refl _ _
  subst hn
  have HZL : Hid ((zerosq d).length = d) := zerosq_len d
  go_enter Try.func19, Try.ntmps19
  go_upto_region 1 with (fail)
  have hsz0 := bb.size
  go_wp2_with (at_make; refine wpList_make_q rfl _ _ rfl Try.underlying22 info_rat d rfl rfl (by omega) ?_; intro wm RN hbm)
  replace bb := bb.trans (hbm.mono bb.size)
  have hsz1 := bb.size
  obtain ⟨g, hg⟩ : ∃ g, g = w.heap.size := ⟨_, rfl⟩
  rw [← hg] at RN ⊢
  have hg_ : w.heap.size ≤ g := by omega
  clear hg
  have hg := hg_
  clear hg_
  go_wp2
  go_loopw [9] (fun v9 wr => ∃ k : Nat, k ≤ d ∧ RowN wr g d ((zerosq d).take k) ∧ Below w.heap.size w wr ∧ v9 = .int .i64 (k : Int)) (fun v9 _ => d - (intOf v9).toNat)
  case atStart => exact ⟨0, by omega, RN, bb, rfl⟩
  case round =>
    obtain ⟨k, hk, hR, hbw, rfl⟩ := hrel
    clear RN bb
    have RN := hR
    have bb := hbw
    clear hR hbw
    have hszr := bb.size
    have hgl := RN.lt
    by_cases hlt : k < d
    · have HTK : Hid ((zerosq d).take (k + 1) = (zerosq d).take k ++ [0]) := take_snoc (zerosq_at hlt)
      have HLK : Hid (k = ((zerosq d).take k).length) := by show _ = _; rw [List.length_take, HZL.out]; omega
      have sB := bb.size
      go_upto_region 5 with (fail)
      refine flowp 4 [Pd.eq (.slice (some ⟨g, 0, none⟩) d d), Pd.eq (.int .i64 (k : Int)), pq ((0 : Rat)) wr.heap.size, Pd.eq (.pointer (some ⟨g, 0 + k * 3, none⟩))] (by kernel_rfl) ?ob1 ?done1
      case ob1 =>
        refine And.intro (ob_move rfl (wt_none rfl) (ev_far rfl rfl) (fun _ _ h => h)) ?_
        refine And.intro (ob_move rfl (wt_none rfl) (ev_far rfl rfl) (fun _ _ h => h)) ?_
        refine And.intro (ob_call1 rfl Try.func9 (by kernel_rfl) (wt_none rfl) (ev_const _) (fun w2 u0 hb h0 => by obtain rfl := h0; exact (RatV_of0 _).mono fun e w3 h => RetQ.pd h hb.size)) ?_
        refine And.intro (ob_indexAddr rfl (wt_none rfl) (ev_dep (j := 0) (by kernel_rfl) rfl rfl) (ev_dep (j := 1) (by kernel_rfl) rfl rfl) (fun _ _ _ hx hy => ⟨_, by rw [hx, hy]; exact index3 (k := k) Try.underlying22 (by kernel_rfl) hlt _, rfl⟩)) ?_
        trivial
      case done1 =>
        refine fun w3 hb3 v0 h0 v1 h1 v2 h2 v3 h3 b hbf => ?_
        obtain rfl := h0; obtain rfl := h1; obtain rfl := h3
        obtain ⟨q2, f2⟩ := h2
        simp only [Act.put, List.setIfInBounds_toArray, List.set_cons_zero, List.set_cons_succ] at hbf
        subst hbf
        replace RN := RN.below hb3
        replace bb := bb.trans (hb3.mono bb.size)
        have hsz3 := bb.size
        have s_2 := sB
        obtain ⟨u2, t2, rfl, q2, d2⟩ := q2
        obtain ⟨A9, c9, rfl, _⟩ := id q2
        obtain ⟨D9, e9, rfl, _⟩ := id d2
        refine ops_store_q (j := 4) rfl rfl rfl rfl (g := g) (i := k) (q := (0 : Rat)) rfl rfl (by kernel_rfl) RN hlt q2 d2 fun w4 hg4 hP4 => ?_
        replace bb := bb.trans ((Below.refl _ _).grown hg4 bb.size (fun g hg => by injection hg with hg; omega))
        have hsz4 := bb.size
        replace RN := hP4.1 HLK.out
        clear hP4
        refine ops_done ?_
        rw [← HTK.out] at RN
        have hsk : d - (k + 1) < d - k := by omega
        go_wp2
        go_roundw
        case rel => exact ⟨k + 1, by omega, RN, bb, by go_num⟩
        case measure => simp [intOf]; omega
    · rw [List.take_of_length_le (by rw [HZL.out]; omega)] at RN
      go_wp2
      go_ret
      exact ⟨g, by rw [HZL.out]; rfl, by rw [HZL.out]; exact RN, hg, bb⟩
set_option maxHeartbeats 1600000 in
set_option maxRecDepth 100000 in
theorem zero_no (n : Int) (w : World) (hn : n < 0 ∨ 200 < n) :
    Calls Try.prog 5 #[.int .i64 n] w (RetNN 2 w) := by
  by_cases hlo : n < 0
  · have bb : Below w.heap.size w w := Below.refl _ _
    have HL : Hid (decide (n < 0) = true) := decide_eq_true hlo
    clear hn hlo
    go_enter Try.func5, Try.ntmps5
    go_upto_region 1 with (fail)
    have hsz0 := bb.size
    have sB := bb.size
    refine flowp 6 [Pd.eq (.int .i64 n), Pd.eq (.bool true), Pd.eq (.bool true), Pd.any, Pd.any, Pd.eq (.bool true)] (by kernel_rfl) ?ob2 ?done2
    case ob2 =>
      refine And.intro (ob_move rfl (wt_none rfl) (ev_far rfl rfl) (fun _ _ h => h)) ?_
      refine And.intro (ob_bin rfl (wt_none rfl) (ev_dep (j := 0) (by kernel_rfl) rfl rfl) (ev_const _) (fun _ _ _ hx hy => ⟨.bool true, by rw [hx, hy, bin_lss_int, HL.out], rfl⟩)) ?_
      refine And.intro (ob_move rfl (wt_none rfl) (ev_dep (j := 1) (by kernel_rfl) rfl rfl) (fun _ _ h => h)) ?_
      refine And.intro (ob_not (wt_dep (c := true) (b := false) (g := 2) rfl (by kernel_rfl) rfl rfl rfl (by exact fun _ _ h => h)) (fun _ => trivial) rfl) ?_
      refine And.intro (ob_not (wt_dep (c := true) (b := false) (g := 2) rfl (by kernel_rfl) rfl rfl rfl (by exact fun _ _ h => h)) (fun _ => trivial) rfl) ?_
      refine And.intro (ob_pick (b := true) rfl (wt_none rfl) (ev_dep (j := 2) (by kernel_rfl) rfl rfl) (ev_const _) (fun _ _ h => h)) ?_
      trivial
    case done2 =>
      refine fun w1 hb1 v0 h0 v1 h1 v2 h2 v3 h3 v4 h4 v5 h5 b hbf => ?_
      obtain rfl := h0; obtain rfl := h1; obtain rfl := h2; obtain rfl := h5
      clear h3
      clear h4
      simp only [Act.put, List.setIfInBounds_toArray, List.set_cons_zero, List.set_cons_succ] at hbf
      subst hbf
      replace bb := bb.trans (hb1.mono bb.size)
      have hsz1 := bb.size
      refine ops_done ?_
      go_wp2
      go_ret2
      exact ⟨rfl, bb⟩
  · have bb : Below w.heap.size w w := Below.refl _ _
    have HL : Hid (decide (n < 0) = false) := decide_eq_false hlo
    have HG : Hid (decide (200 < n) = true) := decide_eq_true (by omega)
    clear hn hlo
    go_enter Try.func5, Try.ntmps5
    go_upto_region 1 with (fail)
    have hsz0 := bb.size
    have sB := bb.size
    refine flowp 6 [Pd.eq (.int .i64 n), Pd.eq (.bool false), Pd.eq (.bool false), Pd.eq (.int .i64 n), Pd.eq (.bool true), Pd.eq (.bool true)] (by kernel_rfl) ?ob3 ?done3
    case ob3 =>
      refine And.intro (ob_move rfl (wt_none rfl) (ev_far rfl rfl) (fun _ _ h => h)) ?_
      refine And.intro (ob_bin rfl (wt_none rfl) (ev_dep (j := 0) (by kernel_rfl) rfl rfl) (ev_const _) (fun _ _ _ hx hy => ⟨.bool false, by rw [hx, hy, bin_lss_int, HL.out], rfl⟩)) ?_
      refine And.intro (ob_move rfl (wt_none rfl) (ev_dep (j := 1) (by kernel_rfl) rfl rfl) (fun _ _ h => h)) ?_
      refine And.intro (ob_move rfl (wt_dep (c := false) (b := false) (g := 2) rfl (by kernel_rfl) rfl rfl rfl (by exact fun _ _ h => h)) (ev_far rfl rfl) (fun _ _ h => h)) ?_
      refine And.intro (ob_bin rfl (wt_dep (c := false) (b := false) (g := 2) rfl (by kernel_rfl) rfl rfl rfl (by exact fun _ _ h => h)) (ev_dep (j := 3) (by kernel_rfl) rfl rfl) (ev_const _) (fun _ _ _ hx hy => ⟨.bool true, by rw [hx, hy, bin_gtr_int, HG.out], rfl⟩)) ?_
      refine And.intro (ob_pick (b := false) rfl (wt_none rfl) (ev_dep (j := 2) (by kernel_rfl) rfl rfl) (ev_dep (j := 4) (by kernel_rfl) rfl rfl) (fun _ _ h => h)) ?_
      trivial
    case done3 =>
      refine fun w1 hb1 v0 h0 v1 h1 v2 h2 v3 h3 v4 h4 v5 h5 b hbf => ?_
      obtain rfl := h0; obtain rfl := h1; obtain rfl := h2; obtain rfl := h3; obtain rfl := h4; obtain rfl := h5
      simp only [Act.put, List.setIfInBounds_toArray, List.set_cons_zero, List.set_cons_succ] at hbf
      subst hbf
      replace bb := bb.trans (hb1.mono bb.size)
      have hsz1 := bb.size
      refine ops_done ?_
      go_wp2
      go_ret2
      exact ⟨rfl, bb⟩
set_option maxHeartbeats 3200000 in
set_option maxRecDepth 100000 in
theorem zero_row (n : Int) (d : Nat) (w : World) (hn : n = (d : Int)) (hd : d ≤ 200) :
    Calls Try.prog 5 #[.int .i64 n] w (RetRN (zerosq d) w) := by
  have bb : Below w.heap.size w w := Below.refl _ _
  subst hn
  have HL : Hid (decide ((d : Int) < 0) = false) := decide_eq_false (by omega)
  have HG : Hid (decide (200 < (d : Int)) = false) := decide_eq_false (by omega)
  have HZL : Hid ((zerosq d).length = d) := zerosq_len d
  go_enter Try.func5, Try.ntmps5
  go_upto_region 1 with (fail)
  have hsz0 := bb.size
  have sB := bb.size
  refine flowp 6 [Pd.eq (.int .i64 (d : Int)), Pd.eq (.bool false), Pd.eq (.bool false), Pd.eq (.int .i64 (d : Int)), Pd.eq (.bool false), Pd.eq (.bool false)] (by kernel_rfl) ?ob4 ?done4
  case ob4 =>
    refine And.intro (ob_move rfl (wt_none rfl) (ev_far rfl rfl) (fun _ _ h => h)) ?_
    refine And.intro (ob_bin rfl (wt_none rfl) (ev_dep (j := 0) (by kernel_rfl) rfl rfl) (ev_const _) (fun _ _ _ hx hy => ⟨.bool false, by rw [hx, hy, bin_lss_int, HL.out], rfl⟩)) ?_
    refine And.intro (ob_move rfl (wt_none rfl) (ev_dep (j := 1) (by kernel_rfl) rfl rfl) (fun _ _ h => h)) ?_
    refine And.intro (ob_move rfl (wt_dep (c := false) (b := false) (g := 2) rfl (by kernel_rfl) rfl rfl rfl (by exact fun _ _ h => h)) (ev_far rfl rfl) (fun _ _ h => h)) ?_
    refine And.intro (ob_bin rfl (wt_dep (c := false) (b := false) (g := 2) rfl (by kernel_rfl) rfl rfl rfl (by exact fun _ _ h => h)) (ev_dep (j := 3) (by kernel_rfl) rfl rfl) (ev_const _) (fun _ _ _ hx hy => ⟨.bool false, by rw [hx, hy, bin_gtr_int, HG.out], rfl⟩)) ?_
    refine And.intro (ob_pick (b := false) rfl (wt_none rfl) (ev_dep (j := 2) (by kernel_rfl) rfl rfl) (ev_dep (j := 4) (by kernel_rfl) rfl rfl) (fun _ _ h => h)) ?_
    trivial
  case done4 =>
    refine fun w1 hb1 v0 h0 v1 h1 v2 h2 v3 h3 v4 h4 v5 h5 b hbf => ?_
    obtain rfl := h0; obtain rfl := h1; obtain rfl := h2; obtain rfl := h3; obtain rfl := h4; obtain rfl := h5
    simp only [Act.put, List.setIfInBounds_toArray, List.set_cons_zero, List.set_cons_succ] at hbf
    subst hbf
    replace bb := bb.trans (hb1.mono bb.size)
    have hsz1 := bb.size
    refine ops_done ?_
    have hw1 := bb.size
    have sB := bb.size
    go_upto_region 3 with (fail)
    refine flowp 4 [Pd.eq (.int .i64 (d : Int)), pro d (zerosq d) w1.heap.size, pro d (zerosq d) w1.heap.size, Pd.eq (.int .i64 0)] (by kernel_rfl) ?ob5 ?done5
    case ob5 =>
      refine And.intro (ob_move rfl (wt_none rfl) (ev_far rfl rfl) (fun _ _ h => h)) ?_
      refine And.intro (ob_call1 rfl Try.func19 (by kernel_rfl) (wt_none rfl) (ev_dep (j := 0) (by kernel_rfl) rfl rfl) (fun w2 u0 hb h0 => by obtain rfl := h0; exact (noughts_any _ (d) _ rfl hd).mono fun e w3 h => RetRo.pd h HZL.out hb.size)) ?_
      refine And.intro (ob_assign rfl (wt_none rfl) (ev_dep (j := 1) (by kernel_rfl) rfl rfl) (fun _ _ h => h)) ?_
      refine And.intro (ob_assign rfl (wt_none rfl) (ev_const _) (fun _ _ h => h)) ?_
      trivial
    case done5 =>
      refine fun w2 hb2 v0 h0 v1 h1 v2 h2 v3 h3 b hbf => ?_
      obtain rfl := h0; obtain rfl := h3
      obtain ⟨g, rfl, RN, hg⟩ := h1
      obtain ⟨g, rfl, RN, hg⟩ := h2
      simp only [Act.put, List.setIfInBounds_toArray, List.set_cons_zero, List.set_cons_succ] at hbf
      subst hbf
      replace bb := bb.trans (hb2.mono bb.size)
      have hsz2 := bb.size
      refine ops_done ?_
      go_wp2
      go_ret2
      exact ⟨_, by rw [HZL.out]; rfl, by rw [HZL.out]; exact RN, by omega, bb⟩
theorem fzero_ok (n : Int) (d : Nat) (w : World) (hn : n = (d : Int)) (hd : d ≤ 200) : Calls Try.prog 5 #[.int .i64 n] w (RetQLE (zerosq d) 0 w) := (zero_row n d w hn hd).mono fun _ _ h => h.qle (by rw [zerosq_len]; omega)
theorem fzero_no (n : Int) (w : World) (hn : n < 0 ∨ 200 < n) : Calls Try.prog 5 #[.int .i64 n] w (RetQLE [] 2 w) := (zero_no n w hn).mono fun _ _ h => h.qle
set_option maxHeartbeats 1600000 in
set_option maxRecDepth 100000 in
theorem unit_len (n i : Int) (w : World) (hn : n < 0 ∨ 200 < n) :
    Calls Try.prog 6 #[.int .i64 n, .int .i64 i] w (RetNN 2 w) := by
  have bb : Below w.heap.size w w := Below.refl _ _
  have HN := Lib.hid hn
  clear hn
  go_enter Try.func6, Try.ntmps6
  go_upto_region 1 with (fail)
  have hsz0 := bb.size
  have sB := bb.size
  refine flowp 7 [Pd.eq (.int .i64 n), Pd.eq (.tuple #[.slice none 0 0, .int .i64 2]), Pd.eq (.tuple #[.slice none 0 0, .int .i64 2]), Pd.eq (.slice none 0 0), Pd.eq (.int .i64 2), Pd.eq (.slice none 0 0), Pd.eq (.int .i64 2)] (by kernel_rfl) ?ob6 ?done6
  case ob6 =>
    refine And.intro (ob_move rfl (wt_none rfl) (ev_far rfl rfl) (fun _ _ h => h)) ?_
    refine And.intro (ob_call1 rfl Try.func5 (by kernel_rfl) (wt_none rfl) (ev_dep (j := 0) (by kernel_rfl) rfl rfl) (fun w2 u0 hb h0 => by obtain rfl := h0; exact (zero_no n _ HN.out).mono fun e w3 h => RetNN.pd h)) ?_
    refine And.intro (ob_move rfl (wt_none rfl) (ev_dep (j := 1) (by kernel_rfl) rfl rfl) (fun _ _ h => h)) ?_
    refine And.intro (ob_extract rfl (wt_none rfl) (ev_dep (j := 2) (by kernel_rfl) rfl rfl) (fun w2 u hu => by obtain rfl := hu; exact ⟨_, rfl, rfl⟩)) ?_
    refine And.intro (ob_extract rfl (wt_none rfl) (ev_dep (j := 2) (by kernel_rfl) rfl rfl) (fun w2 u hu => by obtain rfl := hu; exact ⟨_, rfl, rfl⟩)) ?_
    refine And.intro (ob_assign rfl (wt_none rfl) (ev_dep (j := 3) (by kernel_rfl) rfl rfl) (fun _ _ h => h)) ?_
    refine And.intro (ob_assign rfl (wt_none rfl) (ev_dep (j := 4) (by kernel_rfl) rfl rfl) (fun _ _ h => h)) ?_
    trivial
  case done6 =>
    refine fun w1 hb1 v0 h0 v1 h1 v2 h2 v3 h3 v4 h4 v5 h5 v6 h6 b hbf => ?_
    obtain rfl := h0; obtain rfl := h1; obtain rfl := h2; obtain rfl := h3; obtain rfl := h4; obtain rfl := h5; obtain rfl := h6
    simp only [Act.put, List.setIfInBounds_toArray, List.set_cons_zero, List.set_cons_succ] at hbf
    subst hbf
    replace bb := bb.trans (hb1.mono bb.size)
    have hsz1 := bb.size
    refine ops_done ?_
    have sB := bb.size
    go_upto_region 2 with (fail)
    refine flowp 11 [Pd.eq (.int .i64 2), Pd.eq (.bool true), Pd.eq (.bool true), Pd.any, Pd.any, Pd.eq (.bool true), Pd.eq (.bool true), Pd.any, Pd.any, Pd.any, Pd.eq (.bool true)] (by kernel_rfl) ?ob7 ?done7
    case ob7 =>
      refine And.intro (ob_move rfl (wt_none rfl) (ev_far rfl rfl) (fun _ _ h => h)) ?_
      refine And.intro (ob_bin rfl (wt_none rfl) (ev_dep (j := 0) (by kernel_rfl) rfl rfl) (ev_const _) (fun _ _ _ hx hy => ⟨.bool ((2 : Int) != 0), by rw [hx, hy]; exact bin_neq_int _ _ _ _ _, congrArg Value.bool (by decide)⟩)) ?_
      refine And.intro (ob_move rfl (wt_none rfl) (ev_dep (j := 1) (by kernel_rfl) rfl rfl) (fun _ _ h => h)) ?_
      refine And.intro (ob_not (wt_dep (c := true) (b := false) (g := 2) rfl (by kernel_rfl) rfl rfl rfl (by exact fun _ _ h => h)) (fun _ => trivial) rfl) ?_
      refine And.intro (ob_not (wt_dep (c := true) (b := false) (g := 2) rfl (by kernel_rfl) rfl rfl rfl (by exact fun _ _ h => h)) (fun _ => trivial) rfl) ?_
      refine And.intro (ob_pick (b := true) rfl (wt_none rfl) (ev_dep (j := 2) (by kernel_rfl) rfl rfl) (ev_const _) (fun _ _ h => h)) ?_
      refine And.intro (ob_move rfl (wt_none rfl) (ev_dep (j := 5) (by kernel_rfl) rfl rfl) (fun _ _ h => h)) ?_
      refine And.intro (ob_not (wt_dep (c := true) (b := false) (g := 6) rfl (by kernel_rfl) rfl rfl rfl (by exact fun _ _ h => h)) (fun _ => trivial) rfl) ?_
      refine And.intro (ob_not (wt_dep (c := true) (b := false) (g := 6) rfl (by kernel_rfl) rfl rfl rfl (by exact fun _ _ h => h)) (fun _ => trivial) rfl) ?_
      refine And.intro (ob_not (wt_dep (c := true) (b := false) (g := 6) rfl (by kernel_rfl) rfl rfl rfl (by exact fun _ _ h => h)) (fun _ => trivial) rfl) ?_
      refine And.intro (ob_pick (b := true) rfl (wt_none rfl) (ev_dep (j := 6) (by kernel_rfl) rfl rfl) (ev_const _) (fun _ _ h => h)) ?_
      trivial
    case done7 =>
      refine fun w2 hb2 v0 h0 v1 h1 v2 h2 v3 h3 v4 h4 v5 h5 v6 h6 v7 h7 v8 h8 v9 h9 v10 h10 b hbf => ?_
      obtain rfl := h0; obtain rfl := h1; obtain rfl := h2; obtain rfl := h5; obtain rfl := h6; obtain rfl := h10
      clear h3
      clear h4
      clear h7
      clear h8
      clear h9
      simp only [Act.put, List.setIfInBounds_toArray, List.set_cons_zero, List.set_cons_succ] at hbf
      subst hbf
      replace bb := bb.trans (hb2.mono bb.size)
      have hsz2 := bb.size
      refine ops_done ?_
      go_wp2
      go_ret2
      exact ⟨rfl, bb⟩
set_option maxHeartbeats 1600000 in
set_option maxRecDepth 100000 in
theorem unit_place (n i : Int) (d : Nat) (w : World) (hn : n = (d : Int)) (hd : d ≤ 200) (hi : i < 0 ∨ n ≤ i) :
    Calls Try.prog 6 #[.int .i64 n, .int .i64 i] w (RetNN 2 w) := by
  by_cases hlo : i < 0
  · have bb : Below w.heap.size w w := Below.refl _ _
    have HN := Lib.hid hn
    have H3 : Hid (decide (i < 0) = true) := decide_eq_true hlo
    clear hlo hi hn
    go_enter Try.func6, Try.ntmps6
    go_upto_region 1 with (fail)
    have hsz0 := bb.size
    have sB := bb.size
    refine flowp 7 [Pd.eq (.int .i64 n), prn d (zerosq d) w.heap.size, prn d (zerosq d) w.heap.size, pro d (zerosq d) w.heap.size, Pd.eq (.int .i64 0), pro d (zerosq d) w.heap.size, Pd.eq (.int .i64 0)] (by kernel_rfl) ?ob8 ?done8
    case ob8 =>
      refine And.intro (ob_move rfl (wt_none rfl) (ev_far rfl rfl) (fun _ _ h => h)) ?_
      refine And.intro (ob_call1 rfl Try.func5 (by kernel_rfl) (wt_none rfl) (ev_dep (j := 0) (by kernel_rfl) rfl rfl) (fun w2 u0 hb h0 => by obtain rfl := h0; exact (zero_row n d _ HN.out hd).mono fun e w3 h => RetRN.pd h (zerosq_len d) hb.size)) ?_
      refine And.intro (ob_move rfl (wt_none rfl) (ev_dep (j := 1) (by kernel_rfl) rfl rfl) (fun _ _ h => h)) ?_
      refine And.intro (ob_extract rfl (wt_none rfl) (ev_dep (j := 2) (by kernel_rfl) rfl rfl) (fun w2 u hu => by obtain ⟨g_, rfl, q1, q2⟩ := hu; exact ⟨_, rfl, g_, rfl, q1, q2⟩)) ?_
      refine And.intro (ob_extract rfl (wt_none rfl) (ev_dep (j := 2) (by kernel_rfl) rfl rfl) (fun w2 u hu => by obtain ⟨g_, rfl, q1, q2⟩ := hu; exact ⟨_, rfl, rfl⟩)) ?_
      refine And.intro (ob_assign rfl (wt_none rfl) (ev_dep (j := 3) (by kernel_rfl) rfl rfl) (fun _ _ h => h)) ?_
      refine And.intro (ob_assign rfl (wt_none rfl) (ev_dep (j := 4) (by kernel_rfl) rfl rfl) (fun _ _ h => h)) ?_
      trivial
    case done8 =>
      refine fun w1 hb1 v0 h0 v1 h1 v2 h2 v3 h3 v4 h4 v5 h5 v6 h6 b hbf => ?_
      obtain rfl := h0; obtain rfl := h4; obtain rfl := h6
      clear h1
      clear h2
      obtain ⟨g, rfl, RN, hg⟩ := h3
      obtain ⟨g, rfl, RN, hg⟩ := h5
      simp only [Act.put, List.setIfInBounds_toArray, List.set_cons_zero, List.set_cons_succ] at hbf
      subst hbf
      replace bb := bb.trans (hb1.mono bb.size)
      have hsz1 := bb.size
      refine ops_done ?_
      have sB := bb.size
      go_upto_region 2 with (fail)
      refine flowp 11 [Pd.eq (.int .i64 0), Pd.eq (.bool false), Pd.eq (.bool false), Pd.eq (.int .i64 i), Pd.eq (.bool true), Pd.eq (.bool true), Pd.eq (.bool true), Pd.any, Pd.any, Pd.any, Pd.eq (.bool true)] (by kernel_rfl) ?ob9 ?done9
      case ob9 =>
        refine And.intro (ob_move rfl (wt_none rfl) (ev_far rfl rfl) (fun _ _ h => h)) ?_
        refine And.intro (ob_bin rfl (wt_none rfl) (ev_dep (j := 0) (by kernel_rfl) rfl rfl) (ev_const _) (fun _ _ _ hx hy => ⟨.bool ((0 : Int) != 0), by rw [hx, hy]; exact bin_neq_int _ _ _ _ _, congrArg Value.bool (by decide)⟩)) ?_
        refine And.intro (ob_move rfl (wt_none rfl) (ev_dep (j := 1) (by kernel_rfl) rfl rfl) (fun _ _ h => h)) ?_
        refine And.intro (ob_move rfl (wt_dep (c := false) (b := false) (g := 2) rfl (by kernel_rfl) rfl rfl rfl (by exact fun _ _ h => h)) (ev_far rfl rfl) (fun _ _ h => h)) ?_
        refine And.intro (ob_bin rfl (wt_dep (c := false) (b := false) (g := 2) rfl (by kernel_rfl) rfl rfl rfl (by exact fun _ _ h => h)) (ev_dep (j := 3) (by kernel_rfl) rfl rfl) (ev_const _) (fun _ _ _ hx hy => ⟨.bool true, by rw [hx, hy, bin_lss_int, H3.out], rfl⟩)) ?_
        refine And.intro (ob_pick (b := false) rfl (wt_none rfl) (ev_dep (j := 2) (by kernel_rfl) rfl rfl) (ev_dep (j := 4) (by kernel_rfl) rfl rfl) (fun _ _ h => h)) ?_
        refine And.intro (ob_move rfl (wt_none rfl) (ev_dep (j := 5) (by kernel_rfl) rfl rfl) (fun _ _ h => h)) ?_
        refine And.intro (ob_not (wt_dep (c := true) (b := false) (g := 6) rfl (by kernel_rfl) rfl rfl rfl (by exact fun _ _ h => h)) (fun _ => trivial) rfl) ?_
        refine And.intro (ob_not (wt_dep (c := true) (b := false) (g := 6) rfl (by kernel_rfl) rfl rfl rfl (by exact fun _ _ h => h)) (fun _ => trivial) rfl) ?_
        refine And.intro (ob_not (wt_dep (c := true) (b := false) (g := 6) rfl (by kernel_rfl) rfl rfl rfl (by exact fun _ _ h => h)) (fun _ => trivial) rfl) ?_
        refine And.intro (ob_pick (b := true) rfl (wt_none rfl) (ev_dep (j := 6) (by kernel_rfl) rfl rfl) (ev_const _) (fun _ _ h => h)) ?_
        trivial
      case done9 =>
        refine fun w2 hb2 v0 h0 v1 h1 v2 h2 v3 h3 v4 h4 v5 h5 v6 h6 v7 h7 v8 h8 v9 h9 v10 h10 b hbf => ?_
        obtain rfl := h0; obtain rfl := h1; obtain rfl := h2; obtain rfl := h3; obtain rfl := h4; obtain rfl := h5; obtain rfl := h6; obtain rfl := h10
        clear h7
        clear h8
        clear h9
        simp only [Act.put, List.setIfInBounds_toArray, List.set_cons_zero, List.set_cons_succ] at hbf
        subst hbf
        replace RN := RN.below hb2
        replace bb := bb.trans (hb2.mono bb.size)
        have hsz2 := bb.size
        refine ops_done ?_
        go_wp2
        go_ret2
        exact ⟨rfl, bb⟩
  · have bb : Below w.heap.size w w := Below.refl _ _
    have HN := Lib.hid hn
    have H3 : Hid (decide (i < 0) = false) := decide_eq_false hlo
    have H4 : Hid (decide (n ≤ i) = true) := decide_eq_true (by omega)
    clear hlo hi hn
    go_enter Try.func6, Try.ntmps6
    go_upto_region 1 with (fail)
    have hsz0 := bb.size
    have sB := bb.size
    refine flowp 7 [Pd.eq (.int .i64 n), prn d (zerosq d) w.heap.size, prn d (zerosq d) w.heap.size, pro d (zerosq d) w.heap.size, Pd.eq (.int .i64 0), pro d (zerosq d) w.heap.size, Pd.eq (.int .i64 0)] (by kernel_rfl) ?ob10 ?done10
    case ob10 =>
      refine And.intro (ob_move rfl (wt_none rfl) (ev_far rfl rfl) (fun _ _ h => h)) ?_
      refine And.intro (ob_call1 rfl Try.func5 (by kernel_rfl) (wt_none rfl) (ev_dep (j := 0) (by kernel_rfl) rfl rfl) (fun w2 u0 hb h0 => by obtain rfl := h0; exact (zero_row n d _ HN.out hd).mono fun e w3 h => RetRN.pd h (zerosq_len d) hb.size)) ?_
      refine And.intro (ob_move rfl (wt_none rfl) (ev_dep (j := 1) (by kernel_rfl) rfl rfl) (fun _ _ h => h)) ?_
      refine And.intro (ob_extract rfl (wt_none rfl) (ev_dep (j := 2) (by kernel_rfl) rfl rfl) (fun w2 u hu => by obtain ⟨g_, rfl, q1, q2⟩ := hu; exact ⟨_, rfl, g_, rfl, q1, q2⟩)) ?_
      refine And.intro (ob_extract rfl (wt_none rfl) (ev_dep (j := 2) (by kernel_rfl) rfl rfl) (fun w2 u hu => by obtain ⟨g_, rfl, q1, q2⟩ := hu; exact ⟨_, rfl, rfl⟩)) ?_
      refine And.intro (ob_assign rfl (wt_none rfl) (ev_dep (j := 3) (by kernel_rfl) rfl rfl) (fun _ _ h => h)) ?_
      refine And.intro (ob_assign rfl (wt_none rfl) (ev_dep (j := 4) (by kernel_rfl) rfl rfl) (fun _ _ h => h)) ?_
      trivial
    case done10 =>
      refine fun w1 hb1 v0 h0 v1 h1 v2 h2 v3 h3 v4 h4 v5 h5 v6 h6 b hbf => ?_
      obtain rfl := h0; obtain rfl := h4; obtain rfl := h6
      clear h1
      clear h2
      obtain ⟨g, rfl, RN, hg⟩ := h3
      obtain ⟨g, rfl, RN, hg⟩ := h5
      simp only [Act.put, List.setIfInBounds_toArray, List.set_cons_zero, List.set_cons_succ] at hbf
      subst hbf
      replace bb := bb.trans (hb1.mono bb.size)
      have hsz1 := bb.size
      refine ops_done ?_
      have sB := bb.size
      go_upto_region 2 with (fail)
      refine flowp 11 [Pd.eq (.int .i64 0), Pd.eq (.bool false), Pd.eq (.bool false), Pd.eq (.int .i64 i), Pd.eq (.bool false), Pd.eq (.bool false), Pd.eq (.bool false), Pd.eq (.int .i64 i), Pd.eq (.int .i64 n), Pd.eq (.bool true), Pd.eq (.bool true)] (by kernel_rfl) ?ob11 ?done11
      case ob11 =>
        refine And.intro (ob_move rfl (wt_none rfl) (ev_far rfl rfl) (fun _ _ h => h)) ?_
        refine And.intro (ob_bin rfl (wt_none rfl) (ev_dep (j := 0) (by kernel_rfl) rfl rfl) (ev_const _) (fun _ _ _ hx hy => ⟨.bool ((0 : Int) != 0), by rw [hx, hy]; exact bin_neq_int _ _ _ _ _, congrArg Value.bool (by decide)⟩)) ?_
        refine And.intro (ob_move rfl (wt_none rfl) (ev_dep (j := 1) (by kernel_rfl) rfl rfl) (fun _ _ h => h)) ?_
        refine And.intro (ob_move rfl (wt_dep (c := false) (b := false) (g := 2) rfl (by kernel_rfl) rfl rfl rfl (by exact fun _ _ h => h)) (ev_far rfl rfl) (fun _ _ h => h)) ?_
        refine And.intro (ob_bin rfl (wt_dep (c := false) (b := false) (g := 2) rfl (by kernel_rfl) rfl rfl rfl (by exact fun _ _ h => h)) (ev_dep (j := 3) (by kernel_rfl) rfl rfl) (ev_const _) (fun _ _ _ hx hy => ⟨.bool false, by rw [hx, hy, bin_lss_int, H3.out], rfl⟩)) ?_
        refine And.intro (ob_pick (b := false) rfl (wt_none rfl) (ev_dep (j := 2) (by kernel_rfl) rfl rfl) (ev_dep (j := 4) (by kernel_rfl) rfl rfl) (fun _ _ h => h)) ?_
        refine And.intro (ob_move rfl (wt_none rfl) (ev_dep (j := 5) (by kernel_rfl) rfl rfl) (fun _ _ h => h)) ?_
        refine And.intro (ob_move rfl (wt_dep (c := false) (b := false) (g := 6) rfl (by kernel_rfl) rfl rfl rfl (by exact fun _ _ h => h)) (ev_far rfl rfl) (fun _ _ h => h)) ?_
        refine And.intro (ob_move rfl (wt_dep (c := false) (b := false) (g := 6) rfl (by kernel_rfl) rfl rfl rfl (by exact fun _ _ h => h)) (ev_far rfl rfl) (fun _ _ h => h)) ?_
        refine And.intro (ob_bin rfl (wt_dep (c := false) (b := false) (g := 6) rfl (by kernel_rfl) rfl rfl rfl (by exact fun _ _ h => h)) (ev_dep (j := 7) (by kernel_rfl) rfl rfl) (ev_dep (j := 8) (by kernel_rfl) rfl rfl) (fun _ _ _ hx hy => ⟨.bool true, by rw [hx, hy, bin_geq_int, H4.out], rfl⟩)) ?_
        refine And.intro (ob_pick (b := false) rfl (wt_none rfl) (ev_dep (j := 6) (by kernel_rfl) rfl rfl) (ev_dep (j := 9) (by kernel_rfl) rfl rfl) (fun _ _ h => h)) ?_
        trivial
      case done11 =>
        refine fun w2 hb2 v0 h0 v1 h1 v2 h2 v3 h3 v4 h4 v5 h5 v6 h6 v7 h7 v8 h8 v9 h9 v10 h10 b hbf => ?_
        obtain rfl := h0; obtain rfl := h1; obtain rfl := h2; obtain rfl := h3; obtain rfl := h4; obtain rfl := h5; obtain rfl := h6; obtain rfl := h7; obtain rfl := h8; obtain rfl := h9; obtain rfl := h10
        simp only [Act.put, List.setIfInBounds_toArray, List.set_cons_zero, List.set_cons_succ] at hbf
        subst hbf
        replace RN := RN.below hb2
        replace bb := bb.trans (hb2.mono bb.size)
        have hsz2 := bb.size
        refine ops_done ?_
        go_wp2
        go_ret2
        exact ⟨rfl, bb⟩
set_option maxHeartbeats 3200000 in
set_option maxRecDepth 100000 in
theorem unit_row (n i : Int) (d k : Nat) (w : World) (hn : n = (d : Int)) (hi : i = (k : Int)) (hd : d ≤ 200) (hk : k < d) :
    Calls Try.prog 6 #[.int .i64 n, .int .i64 i] w (RetRN (unitq d k) w) := by
  have bb : Below w.heap.size w w := Below.refl _ _
  have HN := Lib.hid hn
  have H3 : Hid (decide (i < 0) = false) := decide_eq_false (by omega)
  have H4 : Hid (decide (n ≤ i) = false) := decide_eq_false (by omega)
  have HZL : Hid ((zerosq d).length = d) := zerosq_len d
  have HUL : Hid ((unitq d k).length = d) := unitq_len d k
  subst hi
  clear hn
  go_enter Try.func6, Try.ntmps6
  go_upto_region 1 with (fail)
  have hsz0 := bb.size
  have sB := bb.size
  refine flowp 7 [Pd.eq (.int .i64 n), prn d (zerosq d) w.heap.size, prn d (zerosq d) w.heap.size, pro d (zerosq d) w.heap.size, Pd.eq (.int .i64 0), pro d (zerosq d) w.heap.size, Pd.eq (.int .i64 0)] (by kernel_rfl) ?ob12 ?done12
  case ob12 =>
    refine And.intro (ob_move rfl (wt_none rfl) (ev_far rfl rfl) (fun _ _ h => h)) ?_
    refine And.intro (ob_call1 rfl Try.func5 (by kernel_rfl) (wt_none rfl) (ev_dep (j := 0) (by kernel_rfl) rfl rfl) (fun w2 u0 hb h0 => by obtain rfl := h0; exact (zero_row n d _ HN.out hd).mono fun e w3 h => RetRN.pd h (zerosq_len d) hb.size)) ?_
    refine And.intro (ob_move rfl (wt_none rfl) (ev_dep (j := 1) (by kernel_rfl) rfl rfl) (fun _ _ h => h)) ?_
    refine And.intro (ob_extract rfl (wt_none rfl) (ev_dep (j := 2) (by kernel_rfl) rfl rfl) (fun w2 u hu => by obtain ⟨g_, rfl, q1, q2⟩ := hu; exact ⟨_, rfl, g_, rfl, q1, q2⟩)) ?_
    refine And.intro (ob_extract rfl (wt_none rfl) (ev_dep (j := 2) (by kernel_rfl) rfl rfl) (fun w2 u hu => by obtain ⟨g_, rfl, q1, q2⟩ := hu; exact ⟨_, rfl, rfl⟩)) ?_
    refine And.intro (ob_assign rfl (wt_none rfl) (ev_dep (j := 3) (by kernel_rfl) rfl rfl) (fun _ _ h => h)) ?_
    refine And.intro (ob_assign rfl (wt_none rfl) (ev_dep (j := 4) (by kernel_rfl) rfl rfl) (fun _ _ h => h)) ?_
    trivial
  case done12 =>
    refine fun w1 hb1 v0 h0 v1 h1 v2 h2 v3 h3 v4 h4 v5 h5 v6 h6 b hbf => ?_
    obtain rfl := h0; obtain rfl := h4; obtain rfl := h6
    clear h1
    clear h2
    obtain ⟨g, rfl, RN, hg⟩ := h3
    obtain ⟨g, rfl, RN, hg⟩ := h5
    simp only [Act.put, List.setIfInBounds_toArray, List.set_cons_zero, List.set_cons_succ] at hbf
    subst hbf
    replace bb := bb.trans (hb1.mono bb.size)
    have hsz1 := bb.size
    refine ops_done ?_
    have sB := bb.size
    go_upto_region 2 with (fail)
    refine flowp 11 [Pd.eq (.int .i64 0), Pd.eq (.bool false), Pd.eq (.bool false), Pd.eq (.int .i64 (k : Int)), Pd.eq (.bool false), Pd.eq (.bool false), Pd.eq (.bool false), Pd.eq (.int .i64 (k : Int)), Pd.eq (.int .i64 n), Pd.eq (.bool false), Pd.eq (.bool false)] (by kernel_rfl) ?ob13 ?done13
    case ob13 =>
      refine And.intro (ob_move rfl (wt_none rfl) (ev_far rfl rfl) (fun _ _ h => h)) ?_
      refine And.intro (ob_bin rfl (wt_none rfl) (ev_dep (j := 0) (by kernel_rfl) rfl rfl) (ev_const _) (fun _ _ _ hx hy => ⟨.bool ((0 : Int) != 0), by rw [hx, hy]; exact bin_neq_int _ _ _ _ _, congrArg Value.bool (by decide)⟩)) ?_
      refine And.intro (ob_move rfl (wt_none rfl) (ev_dep (j := 1) (by kernel_rfl) rfl rfl) (fun _ _ h => h)) ?_
      refine And.intro (ob_move rfl (wt_dep (c := false) (b := false) (g := 2) rfl (by kernel_rfl) rfl rfl rfl (by exact fun _ _ h => h)) (ev_far rfl rfl) (fun _ _ h => h)) ?_
      refine And.intro (ob_bin rfl (wt_dep (c := false) (b := false) (g := 2) rfl (by kernel_rfl) rfl rfl rfl (by exact fun _ _ h => h)) (ev_dep (j := 3) (by kernel_rfl) rfl rfl) (ev_const _) (fun _ _ _ hx hy => ⟨.bool false, by rw [hx, hy, bin_lss_int, H3.out], rfl⟩)) ?_
      refine And.intro (ob_pick (b := false) rfl (wt_none rfl) (ev_dep (j := 2) (by kernel_rfl) rfl rfl) (ev_dep (j := 4) (by kernel_rfl) rfl rfl) (fun _ _ h => h)) ?_
      refine And.intro (ob_move rfl (wt_none rfl) (ev_dep (j := 5) (by kernel_rfl) rfl rfl) (fun _ _ h => h)) ?_
      refine And.intro (ob_move rfl (wt_dep (c := false) (b := false) (g := 6) rfl (by kernel_rfl) rfl rfl rfl (by exact fun _ _ h => h)) (ev_far rfl rfl) (fun _ _ h => h)) ?_
      refine And.intro (ob_move rfl (wt_dep (c := false) (b := false) (g := 6) rfl (by kernel_rfl) rfl rfl rfl (by exact fun _ _ h => h)) (ev_far rfl rfl) (fun _ _ h => h)) ?_
      refine And.intro (ob_bin rfl (wt_dep (c := false) (b := false) (g := 6) rfl (by kernel_rfl) rfl rfl rfl (by exact fun _ _ h => h)) (ev_dep (j := 7) (by kernel_rfl) rfl rfl) (ev_dep (j := 8) (by kernel_rfl) rfl rfl) (fun _ _ _ hx hy => ⟨.bool false, by rw [hx, hy, bin_geq_int, H4.out], rfl⟩)) ?_
      refine And.intro (ob_pick (b := false) rfl (wt_none rfl) (ev_dep (j := 6) (by kernel_rfl) rfl rfl) (ev_dep (j := 9) (by kernel_rfl) rfl rfl) (fun _ _ h => h)) ?_
      trivial
    case done13 =>
      refine fun w2 hb2 v0 h0 v1 h1 v2 h2 v3 h3 v4 h4 v5 h5 v6 h6 v7 h7 v8 h8 v9 h9 v10 h10 b hbf => ?_
      obtain rfl := h0; obtain rfl := h1; obtain rfl := h2; obtain rfl := h3; obtain rfl := h4; obtain rfl := h5; obtain rfl := h6; obtain rfl := h7; obtain rfl := h8; obtain rfl := h9; obtain rfl := h10
      simp only [Act.put, List.setIfInBounds_toArray, List.set_cons_zero, List.set_cons_succ] at hbf
      subst hbf
      replace RN := RN.below hb2
      replace bb := bb.trans (hb2.mono bb.size)
      have hsz2 := bb.size
      refine ops_done ?_
      have sB := bb.size
      go_upto_region 4 with (fail)
      refine flowp 4 [Pd.eq (.slice (some ⟨g, 0, none⟩) d d), Pd.eq (.int .i64 (k : Int)), pq ((1 : Rat)) w2.heap.size, Pd.eq (.pointer (some ⟨g, 0 + k * 3, none⟩))] (by kernel_rfl) ?ob14 ?done14
      case ob14 =>
        refine And.intro (ob_move rfl (wt_none rfl) (ev_far rfl rfl) (fun _ _ h => h)) ?_
        refine And.intro (ob_move rfl (wt_none rfl) (ev_far rfl rfl) (fun _ _ h => h)) ?_
        refine And.intro (ob_call1 rfl Try.func9 (by kernel_rfl) (wt_none rfl) (ev_const _) (fun w2 u0 hb h0 => by obtain rfl := h0; exact (RatV_of1 _).mono fun e w3 h => RetQ.pd h hb.size)) ?_
        refine And.intro (ob_indexAddr rfl (wt_none rfl) (ev_dep (j := 0) (by kernel_rfl) rfl rfl) (ev_dep (j := 1) (by kernel_rfl) rfl rfl) (fun _ _ _ hx hy => ⟨_, by rw [hx, hy]; exact index3 (k := k) Try.underlying22 (by kernel_rfl) hk _, rfl⟩)) ?_
        trivial
      case done14 =>
        refine fun w3 hb3 v0 h0 v1 h1 v2 h2 v3 h3 b hbf => ?_
        obtain rfl := h0; obtain rfl := h1; obtain rfl := h3
        obtain ⟨q2, f2⟩ := h2
        simp only [Act.put, List.setIfInBounds_toArray, List.set_cons_zero, List.set_cons_succ] at hbf
        subst hbf
        replace RN := RN.below hb3
        replace bb := bb.trans (hb3.mono bb.size)
        have hsz3 := bb.size
        have s_2 := sB
        obtain ⟨u2, t2, rfl, q2, d2⟩ := q2
        obtain ⟨A9, c9, rfl, _⟩ := id q2
        obtain ⟨D9, e9, rfl, _⟩ := id d2
        refine ops_store_q (j := 4) rfl rfl rfl rfl (g := g) (i := k) (q := (1 : Rat)) rfl rfl (by kernel_rfl) RN hk q2 d2 fun w4 hg4 hP4 => ?_
        replace bb := bb.trans ((Below.refl _ _).grown hg4 bb.size (fun g hg => by injection hg with hg; omega))
        have hsz4 := bb.size
        replace RN := hP4.2 (by rw [HZL.out]; exact hk)
        clear hP4
        refine ops_done ?_
        go_wp2
        go_ret2
        exact ⟨g, by rw [HUL.out]; rfl, by rw [HUL.out]; exact RN, hg, bb⟩
theorem funit_ok (n i : Int) (d k : Nat) (w : World) (hn : n = (d : Int)) (hi : i = (k : Int)) (hd : d ≤ 200) (hk : k < d) : Calls Try.prog 6 #[.int .i64 n, .int .i64 i] w (RetQLE (unitq d k) 0 w) := (unit_row n i d k w hn hi hd hk).mono fun _ _ h => h.qle (by rw [unitq_len]; omega)
theorem funit_no (n i : Int) (w : World) (h : n < 0 ∨ 200 < n ∨ i < 0 ∨ n ≤ i) : Calls Try.prog 6 #[.int .i64 n, .int .i64 i] w (RetQLE [] 2 w) := by
  by_cases hn : n < 0 ∨ 200 < n
  · exact (unit_len n i w hn).mono fun _ _ h => h.qle
  · exact (unit_place n i n.toNat w (by omega) (by omega) (by omega)).mono fun _ _ h => h.qle
theorem num_ordz {x : Rat} : (ordz x.num 0 == 0) = decide (x = 0) := by
  by_cases h : x = 0
  · rw [h, decide_eq_true rfl]; rfl
  · rw [decide_eq_false h, beq_eq_false_iff_ne]
    intro e
    have hz : x.num ≠ 0 := fun k => h (Rat.num_eq_zero.1 k)
    rcases Int.lt_or_gt_of_ne hz with k | k
    · rw [ordz_lt k] at e; cases e
    · rw [ordz_gt k] at e; cases e
theorem mul_zero_iff {x y : Rat} : x * y = 0 ↔ x = 0 ∨ y = 0 := by
  constructor
  · intro h
    exact Rat.mul_eq_zero.1 h
  · rintro (rfl | rfl)
    · exact Rat.zero_mul _
    · exact Rat.mul_zero _
set_option maxHeartbeats 1600000 in
set_option maxRecDepth 100000 in
theorem vanishes_any (a0 a1 : Value) (x y : Rat) (b : Bool) (w : World) (h0 : IsQ w a0 x) (h1 : IsQ w a1 y) (hb : b = decide (x * y = 0)) :
    Calls Try.prog 31 #[a0, a1] w (RetV (.bool b) w) := by
  obtain ⟨s, hs⟩ : ∃ s, s = ordz x.num 0 := ⟨_, rfl⟩
  obtain ⟨t, ht⟩ : ∃ t, t = ordz y.num 0 := ⟨_, rfl⟩
  have HS := Lib.hid hs
  have HT := Lib.hid ht
  have HB := Lib.hid hb
  clear hb
  by_cases hx : x = 0
  · obtain ⟨u0, t0, rfl, s0, r0⟩ := h0
    obtain ⟨A0, c0, rfl, _⟩ := id s0
    obtain ⟨D0, e0, rfl, _⟩ := id r0
    obtain ⟨u1, t1, rfl, s1, r1⟩ := h1
    obtain ⟨A1, c1, rfl, _⟩ := id s1
    obtain ⟨D1, e1, rfl, _⟩ := id r1
    have H1 : Hid ((s == 0) = true) := by show _ = _; rw [hs, num_ordz, decide_eq_true hx]
    have HW : Hid (b = true) := by show _ = _; rw [HB.out]; exact decide_eq_true (mul_zero_iff.2 (.inl hx))
    clear hs ht hx
    go_enter Try.func31, Try.ntmps31
    go_upto_region 1 with (fail)
    obtain ⟨wx, hwx, bb, B0, B1, hsz⟩ := vars2 w 34 34 #[.bool (ngB (x).num), .slice A0 (digs 4294967296 (x).num.natAbs).length c0, .slice D0 (digs 4294967296 (x).den).length e0] #[.bool (ngB (y).num), .slice A1 (digs 4294967296 (y).num.natAbs).length c1, .slice D1 (digs 4294967296 (y).den).length e1]
    rw [hwx]
    clear hwx
    have k0s := s0.below bb
    have k0d := r0.below bb
    have k0z : IsZ wx (.agg #[.bool (ngB (x).num), .slice A0 (digs 4294967296 (x).num.natAbs).length c0]) (x).num := ⟨_, rfl, k0s⟩
    have k0 : IsQ wx (.agg #[.bool (ngB (x).num), .slice A0 (digs 4294967296 (x).num.natAbs).length c0, .slice D0 (digs 4294967296 (x).den).length e0]) (x) := ⟨_, _, rfl, k0s, k0d⟩
    have k1s := s1.below bb
    have k1d := r1.below bb
    have k1z : IsZ wx (.agg #[.bool (ngB (y).num), .slice A1 (digs 4294967296 (y).num.natAbs).length c1]) (y).num := ⟨_, rfl, k1s⟩
    have k1 : IsQ wx (.agg #[.bool (ngB (y).num), .slice A1 (digs 4294967296 (y).num.natAbs).length c1, .slice D1 (digs 4294967296 (y).den).length e1]) (y) := ⟨_, _, rfl, k1s, k1d⟩
    have hsz0 := bb.size
    have sB := bb.size
    refine flowp 9 [Pd.eq (.agg #[.bool (ngB (x).num), .slice A0 (digs 4294967296 (x).num.natAbs).length c0, .slice D0 (digs 4294967296 (x).den).length e0]), Pd.eq (.int .i64 s), Pd.eq (.bool true), Pd.eq (.bool true), Pd.any, Pd.any, Pd.any, Pd.eq (.bool true), Pd.eq (.bool true)] (by kernel_rfl) ?ob1 ?done1
    case ob1 =>
      refine And.intro (ob_load rfl (wt_none rfl) (ev_far rfl rfl) (fun w2 hb => run_loadAll Try.underlying34 rfl (by kernel_rfl) (B0.below hb)) (fun _ _ => rfl)) ?_
      refine And.intro (ob_call1 rfl Try.func23 (by kernel_rfl) (wt_none rfl) (ev_dep (j := 0) (by kernel_rfl) rfl rfl) (fun w2 u0 hb h0 => by obtain rfl := h0; exact (fsign0_any _ x s _ (k0.below hb) HS.out).mono fun e w3 h => RetV.pd h)) ?_
      refine And.intro (ob_bin rfl (wt_none rfl) (ev_dep (j := 1) (by kernel_rfl) rfl rfl) (ev_const _) (fun _ _ _ hx hy => ⟨.bool true, by rw [hx, hy, bin_eql_int, H1.out], rfl⟩)) ?_
      refine And.intro (ob_move rfl (wt_none rfl) (ev_dep (j := 2) (by kernel_rfl) rfl rfl) (fun _ _ h => h)) ?_
      refine And.intro (ob_not (wt_dep (c := true) (b := false) (g := 3) rfl (by kernel_rfl) rfl rfl rfl (by exact fun _ _ h => h)) (fun _ => trivial) rfl) ?_
      refine And.intro (ob_not (wt_dep (c := true) (b := false) (g := 3) rfl (by kernel_rfl) rfl rfl rfl (by exact fun _ _ h => h)) (fun _ => trivial) rfl) ?_
      refine And.intro (ob_not (wt_dep (c := true) (b := false) (g := 3) rfl (by kernel_rfl) rfl rfl rfl (by exact fun _ _ h => h)) (fun _ => trivial) rfl) ?_
      refine And.intro (ob_pick (b := true) rfl (wt_none rfl) (ev_dep (j := 3) (by kernel_rfl) rfl rfl) (ev_const _) (fun _ _ h => h)) ?_
      refine And.intro (ob_assign rfl (wt_none rfl) (ev_dep (j := 7) (by kernel_rfl) rfl rfl) (fun _ _ h => h)) ?_
      trivial
    case done1 =>
      refine fun w1 hb1 v0 h0 v1 h1 v2 h2 v3 h3 v4 h4 v5 h5 v6 h6 v7 h7 v8 h8 b hbf => ?_
      obtain rfl := h0; obtain rfl := h1; obtain rfl := h2; obtain rfl := h3; obtain rfl := h7; obtain rfl := h8
      clear h4
      clear h5
      clear h6
      simp only [Act.put, List.setIfInBounds_toArray, List.set_cons_zero, List.set_cons_succ] at hbf
      subst hbf
      replace B0 := B0.below hb1
      replace k0s := k0s.below hb1
      replace k0d := k0d.below hb1
      replace k0z := k0z.below hb1
      replace k0 := k0.below hb1
      replace B1 := B1.below hb1
      replace k1s := k1s.below hb1
      replace k1d := k1d.below hb1
      replace k1z := k1z.below hb1
      replace k1 := k1.below hb1
      replace bb := bb.trans (hb1.mono bb.size)
      have hsz1 := bb.size
      refine ops_done ?_
      go_wp2
      go_ret
      exact ⟨by rw [HW.out]; rfl, bb⟩
  · by_cases hy : y = 0
    · obtain ⟨u0, t0, rfl, s0, r0⟩ := h0
      obtain ⟨A0, c0, rfl, _⟩ := id s0
      obtain ⟨D0, e0, rfl, _⟩ := id r0
      obtain ⟨u1, t1, rfl, s1, r1⟩ := h1
      obtain ⟨A1, c1, rfl, _⟩ := id s1
      obtain ⟨D1, e1, rfl, _⟩ := id r1
      have H1 : Hid ((s == 0) = false) := by show _ = _; rw [hs, num_ordz, decide_eq_false hx]
      have H2 : Hid ((t == 0) = true) := by show _ = _; rw [ht, num_ordz, decide_eq_true hy]
      have HW : Hid (b = true) := by show _ = _; rw [HB.out]; exact decide_eq_true (mul_zero_iff.2 (.inr hy))
      clear hs ht hx hy
      go_enter Try.func31, Try.ntmps31
      go_upto_region 1 with (fail)
      obtain ⟨wx, hwx, bb, B0, B1, hsz⟩ := vars2 w 34 34 #[.bool (ngB (x).num), .slice A0 (digs 4294967296 (x).num.natAbs).length c0, .slice D0 (digs 4294967296 (x).den).length e0] #[.bool (ngB (y).num), .slice A1 (digs 4294967296 (y).num.natAbs).length c1, .slice D1 (digs 4294967296 (y).den).length e1]
      rw [hwx]
      clear hwx
      have k0s := s0.below bb
      have k0d := r0.below bb
      have k0z : IsZ wx (.agg #[.bool (ngB (x).num), .slice A0 (digs 4294967296 (x).num.natAbs).length c0]) (x).num := ⟨_, rfl, k0s⟩
      have k0 : IsQ wx (.agg #[.bool (ngB (x).num), .slice A0 (digs 4294967296 (x).num.natAbs).length c0, .slice D0 (digs 4294967296 (x).den).length e0]) (x) := ⟨_, _, rfl, k0s, k0d⟩
      have k1s := s1.below bb
      have k1d := r1.below bb
      have k1z : IsZ wx (.agg #[.bool (ngB (y).num), .slice A1 (digs 4294967296 (y).num.natAbs).length c1]) (y).num := ⟨_, rfl, k1s⟩
      have k1 : IsQ wx (.agg #[.bool (ngB (y).num), .slice A1 (digs 4294967296 (y).num.natAbs).length c1, .slice D1 (digs 4294967296 (y).den).length e1]) (y) := ⟨_, _, rfl, k1s, k1d⟩
      have hsz0 := bb.size
      have sB := bb.size
      refine flowp 9 [Pd.eq (.agg #[.bool (ngB (x).num), .slice A0 (digs 4294967296 (x).num.natAbs).length c0, .slice D0 (digs 4294967296 (x).den).length e0]), Pd.eq (.int .i64 s), Pd.eq (.bool false), Pd.eq (.bool false), Pd.eq (.agg #[.bool (ngB (y).num), .slice A1 (digs 4294967296 (y).num.natAbs).length c1, .slice D1 (digs 4294967296 (y).den).length e1]), Pd.eq (.int .i64 t), Pd.eq (.bool true), Pd.eq (.bool true), Pd.eq (.bool true)] (by kernel_rfl) ?ob2 ?done2
      case ob2 =>
        refine And.intro (ob_load rfl (wt_none rfl) (ev_far rfl rfl) (fun w2 hb => run_loadAll Try.underlying34 rfl (by kernel_rfl) (B0.below hb)) (fun _ _ => rfl)) ?_
        refine And.intro (ob_call1 rfl Try.func23 (by kernel_rfl) (wt_none rfl) (ev_dep (j := 0) (by kernel_rfl) rfl rfl) (fun w2 u0 hb h0 => by obtain rfl := h0; exact (fsign0_any _ x s _ (k0.below hb) HS.out).mono fun e w3 h => RetV.pd h)) ?_
        refine And.intro (ob_bin rfl (wt_none rfl) (ev_dep (j := 1) (by kernel_rfl) rfl rfl) (ev_const _) (fun _ _ _ hx hy => ⟨.bool false, by rw [hx, hy, bin_eql_int, H1.out], rfl⟩)) ?_
        refine And.intro (ob_move rfl (wt_none rfl) (ev_dep (j := 2) (by kernel_rfl) rfl rfl) (fun _ _ h => h)) ?_
        refine And.intro (ob_load rfl (wt_dep (c := false) (b := false) (g := 3) rfl (by kernel_rfl) rfl rfl rfl (by exact fun _ _ h => h)) (ev_far rfl rfl) (fun w2 hb => run_loadAll Try.underlying34 rfl (by kernel_rfl) (B1.below hb)) (fun _ _ => rfl)) ?_
        refine And.intro (ob_call1 rfl Try.func23 (by kernel_rfl) (wt_dep (c := false) (b := false) (g := 3) rfl (by kernel_rfl) rfl rfl rfl (by exact fun _ _ h => h)) (ev_dep (j := 4) (by kernel_rfl) rfl rfl) (fun w2 u0 hb h0 => by obtain rfl := h0; exact (fsign0_any _ y t _ (k1.below hb) HT.out).mono fun e w3 h => RetV.pd h)) ?_
        refine And.intro (ob_bin rfl (wt_dep (c := false) (b := false) (g := 3) rfl (by kernel_rfl) rfl rfl rfl (by exact fun _ _ h => h)) (ev_dep (j := 5) (by kernel_rfl) rfl rfl) (ev_const _) (fun _ _ _ hx hy => ⟨.bool true, by rw [hx, hy, bin_eql_int, H2.out], rfl⟩)) ?_
        refine And.intro (ob_pick (b := false) rfl (wt_none rfl) (ev_dep (j := 3) (by kernel_rfl) rfl rfl) (ev_dep (j := 6) (by kernel_rfl) rfl rfl) (fun _ _ h => h)) ?_
        refine And.intro (ob_assign rfl (wt_none rfl) (ev_dep (j := 7) (by kernel_rfl) rfl rfl) (fun _ _ h => h)) ?_
        trivial
      case done2 =>
        refine fun w1 hb1 v0 h0 v1 h1 v2 h2 v3 h3 v4 h4 v5 h5 v6 h6 v7 h7 v8 h8 b hbf => ?_
        obtain rfl := h0; obtain rfl := h1; obtain rfl := h2; obtain rfl := h3; obtain rfl := h4; obtain rfl := h5; obtain rfl := h6; obtain rfl := h7; obtain rfl := h8
        simp only [Act.put, List.setIfInBounds_toArray, List.set_cons_zero, List.set_cons_succ] at hbf
        subst hbf
        replace B0 := B0.below hb1
        replace k0s := k0s.below hb1
        replace k0d := k0d.below hb1
        replace k0z := k0z.below hb1
        replace k0 := k0.below hb1
        replace B1 := B1.below hb1
        replace k1s := k1s.below hb1
        replace k1d := k1d.below hb1
        replace k1z := k1z.below hb1
        replace k1 := k1.below hb1
        replace bb := bb.trans (hb1.mono bb.size)
        have hsz1 := bb.size
        refine ops_done ?_
        go_wp2
        go_ret
        exact ⟨by rw [HW.out]; rfl, bb⟩
    · obtain ⟨u0, t0, rfl, s0, r0⟩ := h0
      obtain ⟨A0, c0, rfl, _⟩ := id s0
      obtain ⟨D0, e0, rfl, _⟩ := id r0
      obtain ⟨u1, t1, rfl, s1, r1⟩ := h1
      obtain ⟨A1, c1, rfl, _⟩ := id s1
      obtain ⟨D1, e1, rfl, _⟩ := id r1
      have H1 : Hid ((s == 0) = false) := by show _ = _; rw [hs, num_ordz, decide_eq_false hx]
      have H2 : Hid ((t == 0) = false) := by show _ = _; rw [ht, num_ordz, decide_eq_false hy]
      have HW : Hid (b = false) := by show _ = _; rw [HB.out]; exact decide_eq_false (fun h => by rcases mul_zero_iff.1 h with h | h; exact hx h; exact hy h)
      clear hs ht hx hy
      go_enter Try.func31, Try.ntmps31
      go_upto_region 1 with (fail)
      obtain ⟨wx, hwx, bb, B0, B1, hsz⟩ := vars2 w 34 34 #[.bool (ngB (x).num), .slice A0 (digs 4294967296 (x).num.natAbs).length c0, .slice D0 (digs 4294967296 (x).den).length e0] #[.bool (ngB (y).num), .slice A1 (digs 4294967296 (y).num.natAbs).length c1, .slice D1 (digs 4294967296 (y).den).length e1]
      rw [hwx]
      clear hwx
      have k0s := s0.below bb
      have k0d := r0.below bb
      have k0z : IsZ wx (.agg #[.bool (ngB (x).num), .slice A0 (digs 4294967296 (x).num.natAbs).length c0]) (x).num := ⟨_, rfl, k0s⟩
      have k0 : IsQ wx (.agg #[.bool (ngB (x).num), .slice A0 (digs 4294967296 (x).num.natAbs).length c0, .slice D0 (digs 4294967296 (x).den).length e0]) (x) := ⟨_, _, rfl, k0s, k0d⟩
      have k1s := s1.below bb
      have k1d := r1.below bb
      have k1z : IsZ wx (.agg #[.bool (ngB (y).num), .slice A1 (digs 4294967296 (y).num.natAbs).length c1]) (y).num := ⟨_, rfl, k1s⟩
      have k1 : IsQ wx (.agg #[.bool (ngB (y).num), .slice A1 (digs 4294967296 (y).num.natAbs).length c1, .slice D1 (digs 4294967296 (y).den).length e1]) (y) := ⟨_, _, rfl, k1s, k1d⟩
      have hsz0 := bb.size
      have sB := bb.size
      refine flowp 9 [Pd.eq (.agg #[.bool (ngB (x).num), .slice A0 (digs 4294967296 (x).num.natAbs).length c0, .slice D0 (digs 4294967296 (x).den).length e0]), Pd.eq (.int .i64 s), Pd.eq (.bool false), Pd.eq (.bool false), Pd.eq (.agg #[.bool (ngB (y).num), .slice A1 (digs 4294967296 (y).num.natAbs).length c1, .slice D1 (digs 4294967296 (y).den).length e1]), Pd.eq (.int .i64 t), Pd.eq (.bool false), Pd.eq (.bool false), Pd.eq (.bool false)] (by kernel_rfl) ?ob3 ?done3
      case ob3 =>
        refine And.intro (ob_load rfl (wt_none rfl) (ev_far rfl rfl) (fun w2 hb => run_loadAll Try.underlying34 rfl (by kernel_rfl) (B0.below hb)) (fun _ _ => rfl)) ?_
        refine And.intro (ob_call1 rfl Try.func23 (by kernel_rfl) (wt_none rfl) (ev_dep (j := 0) (by kernel_rfl) rfl rfl) (fun w2 u0 hb h0 => by obtain rfl := h0; exact (fsign0_any _ x s _ (k0.below hb) HS.out).mono fun e w3 h => RetV.pd h)) ?_
        refine And.intro (ob_bin rfl (wt_none rfl) (ev_dep (j := 1) (by kernel_rfl) rfl rfl) (ev_const _) (fun _ _ _ hx hy => ⟨.bool false, by rw [hx, hy, bin_eql_int, H1.out], rfl⟩)) ?_
        refine And.intro (ob_move rfl (wt_none rfl) (ev_dep (j := 2) (by kernel_rfl) rfl rfl) (fun _ _ h => h)) ?_
        refine And.intro (ob_load rfl (wt_dep (c := false) (b := false) (g := 3) rfl (by kernel_rfl) rfl rfl rfl (by exact fun _ _ h => h)) (ev_far rfl rfl) (fun w2 hb => run_loadAll Try.underlying34 rfl (by kernel_rfl) (B1.below hb)) (fun _ _ => rfl)) ?_
        refine And.intro (ob_call1 rfl Try.func23 (by kernel_rfl) (wt_dep (c := false) (b := false) (g := 3) rfl (by kernel_rfl) rfl rfl rfl (by exact fun _ _ h => h)) (ev_dep (j := 4) (by kernel_rfl) rfl rfl) (fun w2 u0 hb h0 => by obtain rfl := h0; exact (fsign0_any _ y t _ (k1.below hb) HT.out).mono fun e w3 h => RetV.pd h)) ?_
        refine And.intro (ob_bin rfl (wt_dep (c := false) (b := false) (g := 3) rfl (by kernel_rfl) rfl rfl rfl (by exact fun _ _ h => h)) (ev_dep (j := 5) (by kernel_rfl) rfl rfl) (ev_const _) (fun _ _ _ hx hy => ⟨.bool false, by rw [hx, hy, bin_eql_int, H2.out], rfl⟩)) ?_
        refine And.intro (ob_pick (b := false) rfl (wt_none rfl) (ev_dep (j := 3) (by kernel_rfl) rfl rfl) (ev_dep (j := 6) (by kernel_rfl) rfl rfl) (fun _ _ h => h)) ?_
        refine And.intro (ob_assign rfl (wt_none rfl) (ev_dep (j := 7) (by kernel_rfl) rfl rfl) (fun _ _ h => h)) ?_
        trivial
      case done3 =>
        refine fun w1 hb1 v0 h0 v1 h1 v2 h2 v3 h3 v4 h4 v5 h5 v6 h6 v7 h7 v8 h8 b hbf => ?_
        obtain rfl := h0; obtain rfl := h1; obtain rfl := h2; obtain rfl := h3; obtain rfl := h4; obtain rfl := h5; obtain rfl := h6; obtain rfl := h7; obtain rfl := h8
        simp only [Act.put, List.setIfInBounds_toArray, List.set_cons_zero, List.set_cons_succ] at hbf
        subst hbf
        replace B0 := B0.below hb1
        replace k0s := k0s.below hb1
        replace k0d := k0d.below hb1
        replace k0z := k0z.below hb1
        replace k0 := k0.below hb1
        replace B1 := B1.below hb1
        replace k1s := k1s.below hb1
        replace k1d := k1d.below hb1
        replace k1z := k1z.below hb1
        replace k1 := k1.below hb1
        replace bb := bb.trans (hb1.mono bb.size)
        have hsz1 := bb.size
        refine ops_done ?_
        go_wp2
        go_ret
        exact ⟨by rw [HW.out]; rfl, bb⟩
set_option maxHeartbeats 3200000 in
set_option maxRecDepth 100000 in
theorem fscale_any (a0 a1 : Value) (p : List Rat) (K : Rat) (w : World) (h0 : SlF .u64 4294967296 w a0 p) (h1 : IsQ w a1 K) (hl : p.length ≤ 8 ∧ (∀ x ∈ p, lenQ x 1) ∧ lenQ K 1) :
    Calls Try.prog 16 #[a0, a1] w (RetSl (scaleq p K) w) := by
  obtain ⟨u1, t1, rfl, s1, r1⟩ := h1
  obtain ⟨A1, c1, rfl, _⟩ := id s1
  obtain ⟨D1, e1, rfl, _⟩ := id r1
  have sl0 := h0
  obtain ⟨A0, c0, rfl, hc0, hm0⟩ := h0.shape
  unfold maxLen at hm0
  have HL := Lib.hid hl
  have lK : lenQ K 1 := hl.2.2
  have hl8 : p.length ≤ 8 := hl.1
  have HRL : Hid ((scaleq p K).length = p.length) := scaleq_len p K
  clear hl
  go_enter Try.func16, Try.ntmps16
  go_upto_region 1 with (fail)
  obtain ⟨wx, hwx, bb, B1, hsz⟩ := vars1 w 34 #[.bool (ngB (K).num), .slice A1 (digs 4294967296 (K).num.natAbs).length c1, .slice D1 (digs 4294967296 (K).den).length e1]
  rw [hwx]
  clear hwx
  have k1s := s1.below bb
  have k1d := r1.below bb
  have k1z : IsZ wx (.agg #[.bool (ngB (K).num), .slice A1 (digs 4294967296 (K).num.natAbs).length c1]) (K).num := ⟨_, rfl, k1s⟩
  have k1 : IsQ wx (.agg #[.bool (ngB (K).num), .slice A1 (digs 4294967296 (K).num.natAbs).length c1, .slice D1 (digs 4294967296 (K).den).length e1]) (K) := ⟨_, _, rfl, k1s, k1d⟩
  have hsz0 := bb.size
  go_wp2_with (at_make; refine wpList_make_q rfl _ _ rfl Try.underlying22 info_rat p.length rfl rfl (by omega) ?_; intro wm RN hbm)
  have hwg : w.heap.size ≤ wx.heap.size := bb.size
  have hlb3 := B1.lt
  replace B1 := B1.below hbm
  replace k1s := k1s.below hbm
  replace k1d := k1d.below hbm
  replace k1z := k1z.below hbm
  replace k1 := k1.below hbm
  replace bb := bb.trans (hbm.mono bb.size)
  have hsz1 := bb.size
  obtain ⟨g, hg⟩ : ∃ g, g = wx.heap.size := ⟨_, rfl⟩
  rw [← hg] at RN ⊢
  have hg_ : wx.heap.size ≤ g := by omega
  clear hg
  have hg := hg_
  clear hg_
  have hgw : w.heap.size ≤ g := by omega
  have RN0 : RowN wm g p.length ((scaleq p K).take 0) := RN
  clear RN
  go_wp2
  go_loopw [13] (fun v13 wr => ∃ k : Nat, k ≤ p.length ∧ RowN wr g p.length ((scaleq p K).take k) ∧ Blk wr (w.heap.size) 34 #[.bool (ngB (K).num), .slice A1 (digs 4294967296 (K).num.natAbs).length c1, .slice D1 (digs 4294967296 (K).den).length e1] ∧ Below w.heap.size w wr ∧ v13 = .int .i64 (k : Int)) (fun v13 _ => p.length - (intOf v13).toNat)
  case atStart => exact ⟨0, by omega, RN0, B1, bb, rfl⟩
  case round =>
    obtain ⟨k, hk, hR, hB3, hbw, rfl⟩ := hrel
    clear RN0 bb B1 k1s k1d k1z k1
    have RN := hR
    have bb := hbw
    clear hR hbw
    have B1 := hB3
    have k1s := s1.below bb
    have k1d := r1.below bb
    have k1z : IsZ wr (.agg #[.bool (ngB (K).num), .slice A1 (digs 4294967296 (K).num.natAbs).length c1]) (K).num := ⟨_, rfl, k1s⟩
    have k1 : IsQ wr (.agg #[.bool (ngB (K).num), .slice A1 (digs 4294967296 (K).num.natAbs).length c1, .slice D1 (digs 4294967296 (K).den).length e1]) (K) := ⟨_, _, rfl, k1s, k1d⟩
    have hlc3 := B1.lt
    clear hB3
    have hszr := bb.size
    have hgl := RN.lt
    by_cases hlt : k < p.length
    · obtain ⟨x, hq0_⟩ : ∃ x, p[k]? = some x := ⟨_, List.getElem?_eq_getElem hlt⟩
      obtain ⟨g0_, o0_, ue0, te0, hA0_, _, e00, e01, e02, es0, ed0⟩ := (sl0.below bb).at_ hq0_
      subst hA0_
      have HQ0 := Lib.hid hq0_
      clear hq0_
      obtain ⟨Ae0, ce0, rfl, _⟩ := id es0
      obtain ⟨De0, ee0, rfl, _⟩ := id ed0
      have ke0 : IsQ wr (.agg #[.bool (ngB x.num), .slice Ae0 (digs 4294967296 x.num.natAbs).length ce0, .slice De0 (digs 4294967296 x.den).length ee0]) x := ⟨_, _, rfl, es0, ed0⟩
      have lx : lenQ x 1 := HL.out.2.1 x (List.mem_of_getElem? HQ0.out)
      have HAT : Hid ((scaleq p K)[k]? = some (x * K)) := by show _ = _; rw [scaleq, List.getElem?_map, HQ0.out]; rfl
      have HTK : Hid ((scaleq p K).take (k + 1) = (scaleq p K).take k ++ [(x * K)]) := take_snoc HAT.out
      have HLK : Hid (k = ((scaleq p K).take k).length) := by show _ = _; rw [List.length_take, HRL.out]; omega
      have sB := bb.size
      go_upto_region 4 with (fail)
      have lt2_3 := Blk.lt B1
      refine flowp 5 [Pd.eq (.int .i64 (k : Int)), Pd.eq (.pointer (some ⟨g0_, o0_ + k * 3, none⟩)), Pd.eq (.agg #[.bool (ngB x.num), .slice Ae0 (digs 4294967296 x.num.natAbs).length ce0, .slice De0 (digs 4294967296 x.den).length ee0]), pn 34 #[.bool false, .slice none 0 0, .slice none 0 0] wr.heap.size, Pd.eq (.int .i64 (k : Int))] (by kernel_rfl) ?ob4 ?done4
      case ob4 =>
        refine And.intro (ob_move rfl (wt_none rfl) (ev_far rfl rfl) (fun _ _ h => h)) ?_
        refine And.intro (ob_indexAddr rfl (wt_none rfl) (ev_far rfl rfl) (ev_far rfl rfl) (fun _ _ _ hx hy => ⟨_, by rw [hx, hy]; exact index3 Try.underlying22 (by kernel_rfl) hlt _, rfl⟩)) ?_
        refine And.intro (ob_load rfl (wt_none rfl) (ev_dep (j := 1) (by kernel_rfl) rfl rfl) (fun w2 hb => load3 Try.underlying34 rfl (by kernel_rfl) ((hb.cell (World.block_lt_of_cell? wr _ e00)).trans e00) ((hb.cell (World.block_lt_of_cell? wr _ e01)).trans e01) ((hb.cell (World.block_lt_of_cell? wr _ e02)).trans e02)) (fun _ _ => rfl)) ?_
        refine And.intro (ob_alloc (z := .agg #[.bool false, .slice none 0 0, .slice none 0 0]) rfl rfl (fun _ => by kernel_rfl) (fun _ _ hB h => ⟨_, rfl, hB, h⟩)) ?_
        refine And.intro (ob_assign rfl (wt_none rfl) (ev_dep (j := 0) (by kernel_rfl) rfl rfl) (fun _ _ h => h)) ?_
        trivial
      case done4 =>
        refine fun w3 hb3 v0 h0 v1 h1 v2 h2 v3 h3 d3 v4 h4 b hbf => ?_
        obtain rfl := h0; obtain rfl := h1; obtain rfl := h2; obtain rfl := h4
        obtain ⟨g4_3, rfl, hg3, B3⟩ := h3
        simp only [Act.put, List.setIfInBounds_toArray, List.set_cons_zero, List.set_cons_succ] at hbf
        subst hbf
        replace B1 := B1.below hb3
        replace k1s := k1s.below hb3
        replace k1d := k1d.below hb3
        replace k1z := k1z.below hb3
        replace k1 := k1.below hb3
        replace RN := RN.below hb3
        replace es0 := es0.below hb3
        replace ed0 := ed0.below hb3
        replace bb := bb.trans (hb3.mono bb.size)
        have hsz3 := bb.size
        have BA7 := B3
        have q2 := es0
        have d2 := ed0
        refine ops_store (i := 5) rfl rfl rfl rfl rfl rfl (cells := [.bool (ngB (x).num), .slice Ae0 (digs 4294967296 (x).num.natAbs).length ce0, .slice De0 (digs 4294967296 (x).den).length ee0]) rfl BA7 rfl (by kernel_rfl) (one3 rfl rfl rfl) fun w4 hg4 BN4 => ?_
        replace q2 := off q2 BA7 no_ints3 hg4
        replace d2 := off d2 BA7 no_ints3 hg4
        replace RN := RowN.offb RN BA7 no_ints3 hg4 (by omega)
        replace k1s := off k1s BA7 no_ints3 hg4
        replace k1d := off k1d BA7 no_ints3 hg4
        replace k1z : IsZ w4 (.agg #[.bool (ngB (K).num), .slice A1 (digs 4294967296 (K).num.natAbs).length c1]) ((K).num) := ⟨_, rfl, k1s⟩
        replace k1 : IsQ w4 (.agg #[.bool (ngB (K).num), .slice A1 (digs 4294967296 (K).num.natAbs).length c1, .slice D1 (digs 4294967296 (K).den).length e1]) (K) := ⟨_, _, rfl, k1s, k1d⟩
        replace B1 := B1.grown hg4 (by omega)
        replace bb := bb.trans ((Below.refl _ _).grown hg4 bb.size (fun g hg => by injection hg with hg; omega))
        have hsz4 := bb.size
        have Be0 : Blk w4 (g4_3) _ _ := BN4
        have ke0s := q2
        have ke0d := d2
        have ke0z : IsZ w4 (.agg #[.bool (ngB (x).num), .slice Ae0 (digs 4294967296 (x).num.natAbs).length ce0]) ((x).num) := ⟨_, rfl, ke0s⟩
        have ke0 : IsQ w4 (.agg #[.bool (ngB (x).num), .slice Ae0 (digs 4294967296 (x).num.natAbs).length ce0, .slice De0 (digs 4294967296 (x).den).length ee0]) (x) := ⟨_, _, rfl, ke0s, ke0d⟩
        refine ops_done ?_
        have hle := Be0.lt
        have hneE : g ≠ g4_3 := by omega
        have sB := bb.size
        go_upto_region 5 with (fail)
        refine flowp 6 [Pd.eq (.slice (some ⟨g, 0, none⟩) p.length p.length), Pd.eq (.int .i64 (k : Int)), Pd.eq (.agg #[.bool (ngB (x).num), .slice Ae0 (digs 4294967296 (x).num.natAbs).length ce0, .slice De0 (digs 4294967296 (x).den).length ee0]), Pd.eq (.agg #[.bool (ngB (K).num), .slice A1 (digs 4294967296 (K).num.natAbs).length c1, .slice D1 (digs 4294967296 (K).den).length e1]), pq ((x * K)) w4.heap.size, Pd.eq (.pointer (some ⟨g, 0 + k * 3, none⟩))] (by kernel_rfl) ?ob5 ?done5
        case ob5 =>
          refine And.intro (ob_move rfl (wt_none rfl) (ev_far rfl rfl) (fun _ _ h => h)) ?_
          refine And.intro (ob_move rfl (wt_none rfl) (ev_far rfl rfl) (fun _ _ h => h)) ?_
          refine And.intro (ob_load rfl (wt_none rfl) (ev_far rfl rfl) (fun w2 hb => run_loadAll Try.underlying34 rfl (by kernel_rfl) (Be0.below hb)) (fun _ _ => rfl)) ?_
          refine And.intro (ob_load rfl (wt_none rfl) (ev_far rfl rfl) (fun w2 hb => run_loadAll Try.underlying34 rfl (by kernel_rfl) (B1.below hb)) (fun _ _ => rfl)) ?_
          refine And.intro (ob_call2 rfl Try.func18 (by kernel_rfl) (wt_none rfl) (ev_dep (j := 2) (by kernel_rfl) rfl rfl) (ev_dep (j := 3) (by kernel_rfl) rfl rfl) (fun w2 u0 u1 hb h0 h1 => by obtain rfl := h0; obtain rfl := h1; exact (mul8_any _ x _ K _ (ke0.below hb) (k1.below hb) (lx.mono (by decide)) (lK.mono (by decide))).mono fun e w3 h => RetQ.pd h hb.size)) ?_
          refine And.intro (ob_indexAddr rfl (wt_none rfl) (ev_dep (j := 0) (by kernel_rfl) rfl rfl) (ev_dep (j := 1) (by kernel_rfl) rfl rfl) (fun _ _ _ hx hy => ⟨_, by rw [hx, hy]; exact index3 (k := k) Try.underlying22 (by kernel_rfl) hlt _, rfl⟩)) ?_
          trivial
        case done5 =>
          refine fun w5 hb5 v0 h0 v1 h1 v2 h2 v3 h3 v4 h4 v5 h5 b hbf => ?_
          obtain rfl := h0; obtain rfl := h1; obtain rfl := h2; obtain rfl := h3; obtain rfl := h5
          obtain ⟨q4, f4⟩ := h4
          simp only [Act.put, List.setIfInBounds_toArray, List.set_cons_zero, List.set_cons_succ] at hbf
          subst hbf
          replace B1 := B1.below hb5
          replace k1s := k1s.below hb5
          replace k1d := k1d.below hb5
          replace k1z := k1z.below hb5
          replace k1 := k1.below hb5
          replace Be0 := Be0.below hb5
          replace ke0s := ke0s.below hb5
          replace ke0d := ke0d.below hb5
          replace ke0z := ke0z.below hb5
          replace ke0 := ke0.below hb5
          replace RN := RN.below hb5
          replace bb := bb.trans (hb5.mono bb.size)
          have hsz5 := bb.size
          have s_4 := sB
          obtain ⟨u4, t4, rfl, q4, d4⟩ := q4
          obtain ⟨A9, c9, rfl, _⟩ := id q4
          obtain ⟨D9, e9, rfl, _⟩ := id d4
          refine ops_store_q (j := 6) rfl rfl rfl rfl (g := g) (i := k) (q := (x * K)) rfl rfl (by kernel_rfl) RN hlt q4 d4 fun w6 hg6 hP6 => ?_
          replace k1s := RN.keep hg6 k1s
          replace k1d := RN.keep hg6 k1d
          replace k1z : IsZ w6 (.agg #[.bool (ngB (K).num), .slice A1 (digs 4294967296 (K).num.natAbs).length c1]) ((K).num) := ⟨_, rfl, k1s⟩
          replace k1 : IsQ w6 (.agg #[.bool (ngB (K).num), .slice A1 (digs 4294967296 (K).num.natAbs).length c1, .slice D1 (digs 4294967296 (K).den).length e1]) (K) := ⟨_, _, rfl, k1s, k1d⟩
          replace B1 := B1.grown hg6 (by omega)
          replace ke0s := RN.keep hg6 ke0s
          replace ke0d := RN.keep hg6 ke0d
          replace ke0z : IsZ w6 (.agg #[.bool (ngB (x).num), .slice Ae0 (digs 4294967296 (x).num.natAbs).length ce0]) ((x).num) := ⟨_, rfl, ke0s⟩
          replace ke0 : IsQ w6 (.agg #[.bool (ngB (x).num), .slice Ae0 (digs 4294967296 (x).num.natAbs).length ce0, .slice De0 (digs 4294967296 (x).den).length ee0]) (x) := ⟨_, _, rfl, ke0s, ke0d⟩
          replace Be0 := Be0.grown hg6 (by omega)
          replace bb := bb.trans ((Below.refl _ _).grown hg6 bb.size (fun g hg => by injection hg with hg; omega))
          have hsz6 := bb.size
          replace RN := hP6.1 HLK.out
          clear hP6
          refine ops_done ?_
          rw [← HTK.out] at RN
          have hsk : p.length - (k + 1) < p.length - k := by omega
          go_wp2
          go_roundw
          case rel => exact ⟨k + 1, by omega, RN, B1, bb, by go_num⟩
          case measure => simp [intOf]; omega
    · rw [List.take_of_length_le (by rw [HRL.out]; omega)] at RN
      have hS := RN.sl HRL.out (by omega)
      clear RN
      go_wp2
      go_ret
      exact ⟨_, rfl, hS, bb⟩
set_option maxHeartbeats 3200000 in
set_option maxRecDepth 100000 in
theorem fdot_ok (a0 a1 : Value) (p q : List Rat) (w : World) (h0 : SlF .u64 4294967296 w a0 p) (h1 : SlF .u64 4294967296 w a1 q) (he : p.length = q.length) (hl : p.length ≤ 8 ∧ (∀ x ∈ p, lenQ x 3) ∧ ∀ x ∈ q, lenQ x 3) :
    Calls Try.prog 15 #[a0, a1] w (RetQE (dotq p q) 0 w) := by
  have sl0 := h0
  obtain ⟨A0, c0, rfl, hc0, hm0⟩ := h0.shape
  unfold maxLen at hm0
  have sl1 := h1
  obtain ⟨A1, c1, rfl, hc1, hm1⟩ := h1.shape
  unfold maxLen at hm1
  have HNE : Hid ((((p.length : Nat) : Int) != ((q.length : Nat) : Int)) = false) := by show _ = _; rw [bne_eq_false_iff_eq]; omega
  have HE := Lib.hid he
  have HLE := Lib.hid hl
  have hl8 : p.length ≤ 8 := hl.1
  clear he hl
  go_enter Try.func15, Try.ntmps15
  go_upto_region 1 with (fail)
  obtain ⟨wx, hwx, bb, BR0, hsz⟩ := vars1 w 34 #[.bool false, .slice none 0 0, .slice none 0 0]
  rw [hwx]
  clear hwx
  have hsz0 := bb.size
  have sB := bb.size
  refine flowp 5 [Pd.eq (.slice A0 p.length c0), Pd.eq (.int .i64 ((p.length : Nat) : Int)), Pd.eq (.slice A1 q.length c1), Pd.eq (.int .i64 ((q.length : Nat) : Int)), Pd.eq (.bool false)] (by kernel_rfl) ?ob8 ?done8
  case ob8 =>
    refine And.intro (ob_move rfl (wt_none rfl) (ev_far rfl rfl) (fun _ _ h => h)) ?_
    refine And.intro (ob_len rfl (wt_none rfl) (ev_dep (j := 0) (by kernel_rfl) rfl rfl) (fun _ _ hx => ⟨_, by rw [hx]; exact len_slice Try.underlying22 _ _ _ _, rfl⟩)) ?_
    refine And.intro (ob_move rfl (wt_none rfl) (ev_far rfl rfl) (fun _ _ h => h)) ?_
    refine And.intro (ob_len rfl (wt_none rfl) (ev_dep (j := 2) (by kernel_rfl) rfl rfl) (fun _ _ hx => ⟨_, by rw [hx]; exact len_slice Try.underlying22 _ _ _ _, rfl⟩)) ?_
    refine And.intro (ob_bin rfl (wt_none rfl) (ev_dep (j := 1) (by kernel_rfl) rfl rfl) (ev_dep (j := 3) (by kernel_rfl) rfl rfl) (fun _ _ _ hx hy => ⟨.bool false, by rw [hx, hy, bin_neq_int, HNE.out], rfl⟩)) ?_
    trivial
  case done8 =>
    refine fun w1 hb1 v0 h0 v1 h1 v2 h2 v3 h3 v4 h4 b hbf => ?_
    obtain rfl := h0; obtain rfl := h1; obtain rfl := h2; obtain rfl := h3; obtain rfl := h4
    simp only [Act.put, List.setIfInBounds_toArray, List.set_cons_zero, List.set_cons_succ] at hbf
    subst hbf
    replace BR0 := BR0.below hb1
    replace bb := bb.trans (hb1.mono bb.size)
    have hsz1 := bb.size
    refine ops_done ?_
    have sB := bb.size
    go_upto_region 3 with (fail)
    have lt1_4 := Blk.lt BR0
    refine flowp 2 [pq ((0 : Rat)) w1.heap.size, pn 34 #[.bool false, .slice none 0 0, .slice none 0 0] w1.heap.size] (by kernel_rfl) ?ob9 ?done9
    case ob9 =>
      refine And.intro (ob_call1 rfl Try.func9 (by kernel_rfl) (wt_none rfl) (ev_const _) (fun w2 u0 hb h0 => by obtain rfl := h0; exact (RatV_of0 _).mono fun e w3 h => RetQ.pd h hb.size)) ?_
      refine And.intro (ob_alloc (z := .agg #[.bool false, .slice none 0 0, .slice none 0 0]) rfl rfl (fun _ => by kernel_rfl) (fun _ _ hB h => ⟨_, rfl, hB, h⟩)) ?_
      trivial
    case done9 =>
      refine fun w2 hb2 v0 h0 v1 h1 d1 b hbf => ?_
      obtain ⟨q0, f0⟩ := h0
      obtain ⟨g9_1, rfl, hg1, B1⟩ := h1
      simp only [Act.put, List.setIfInBounds_toArray, List.set_cons_zero, List.set_cons_succ] at hbf
      subst hbf
      replace BR0 := BR0.below hb2
      replace bb := bb.trans (hb2.mono bb.size)
      have hsz2 := bb.size
      have s_0 := sB
      have BA6 := B1
      obtain ⟨u0, t0, rfl, q0, d0⟩ := q0
      obtain ⟨A6, c6, rfl, _⟩ := id q0
      obtain ⟨D6, e6, rfl, _⟩ := id d0
      refine ops_store (i := 2) rfl rfl rfl rfl rfl rfl (cells := [.bool (ngB ((0 : Rat)).num), .slice A6 (digs 4294967296 ((0 : Rat)).num.natAbs).length c6, .slice D6 (digs 4294967296 ((0 : Rat)).den).length e6]) rfl BA6 rfl (by kernel_rfl) (one3 rfl rfl rfl) fun w3 hg3 BN3 => ?_
      replace q0 := off q0 BA6 no_ints3 hg3
      replace d0 := off d0 BA6 no_ints3 hg3
      replace BR0 := BR0.grown hg3 (by omega)
      replace bb := bb.trans ((Below.refl _ _).grown hg3 bb.size (fun g hg => by injection hg with hg; omega))
      have hsz3 := bb.size
      have B6 : Blk w3 (g9_1) _ _ := BN3
      have k6s := q0
      have k6d := d0
      have k6z : IsZ w3 (.agg #[.bool (ngB ((0 : Rat)).num), .slice A6 (digs 4294967296 ((0 : Rat)).num.natAbs).length c6]) (((0 : Rat)).num) := ⟨_, rfl, k6s⟩
      have k6 : IsQ w3 (.agg #[.bool (ngB ((0 : Rat)).num), .slice A6 (digs 4294967296 ((0 : Rat)).num.natAbs).length c6, .slice D6 (digs 4294967296 ((0 : Rat)).den).length e6]) ((0 : Rat)) := ⟨_, _, rfl, k6s, k6d⟩
      refine ops_done ?_
      go_wp2
      go_loopw [18] (fun v18 wr => ∃ k : Nat, k ≤ p.length ∧ HoldQ wr g9_1 (sumq ((prods p q).take k)) ∧ Blk wr w.heap.size 34 #[.bool false, .slice none 0 0, .slice none 0 0] ∧ Below w.heap.size w wr ∧ g9_1 < wr.heap.size ∧ v18 = .int .i64 (k : Int)) (fun v18 _ => p.length - (intOf v18).toNat)
      case atStart => exact ⟨0, by omega, ⟨_, _, B6, k6s, k6d⟩, BR0, bb, B6.lt, rfl⟩
      case round =>
        obtain ⟨k, hk, hH, hR, hbw, hGl, rfl⟩ := hrel
        clear B6 k6s k6d k6z k6 BR0 bb
        have BR0 := hR
        have bb := hbw
        obtain ⟨s, hs⟩ : ∃ s, s = sumq ((prods p q).take k) := ⟨_, rfl⟩
        rw [← hs] at hH
        have HS := Lib.hid hs
        clear hs hR hbw
        have ls : lenQ s 60 := by
          rw [HS.out]
          refine (lenQ_sumq (fun x hx => lenQ_prods HLE.out.2.1 HLE.out.2.2 x (List.mem_of_mem_take hx))).mono ?_
          rw [List.length_take]
          omega
        obtain ⟨u6, t6, B6, k6s, k6d⟩ := hH
        obtain ⟨A6, c6, rfl, _⟩ := id k6s
        obtain ⟨D6, e6, rfl, _⟩ := id k6d
        have k6z : IsZ wr (.agg #[.bool (ngB (s).num), .slice A6 (digs 4294967296 (s).num.natAbs).length c6]) (s).num := ⟨_, rfl, k6s⟩
        have k6 : IsQ wr (.agg #[.bool (ngB (s).num), .slice A6 (digs 4294967296 (s).num.natAbs).length c6, .slice D6 (digs 4294967296 (s).den).length e6]) (s) := ⟨_, _, rfl, k6s, k6d⟩
        have hszr := bb.size
        by_cases hlt : k < p.length
        · have hlt2 : k < q.length := by have := HE.out; omega
          obtain ⟨x, hq0_⟩ : ∃ x, p[k]? = some x := ⟨_, List.getElem?_eq_getElem hlt⟩
          obtain ⟨g0_, o0_, ue0, te0, hA0_, _, e00, e01, e02, es0, ed0⟩ := (sl0.below bb).at_ hq0_
          subst hA0_
          have HQ0 := Lib.hid hq0_
          clear hq0_
          obtain ⟨Ae0, ce0, rfl, _⟩ := id es0
          obtain ⟨De0, ee0, rfl, _⟩ := id ed0
          have ke0 : IsQ wr (.agg #[.bool (ngB x.num), .slice Ae0 (digs 4294967296 x.num.natAbs).length ce0, .slice De0 (digs 4294967296 x.den).length ee0]) x := ⟨_, _, rfl, es0, ed0⟩
          obtain ⟨y, hy⟩ : ∃ y, q[k]? = some y := ⟨_, List.getElem?_eq_getElem hlt2⟩
          have HY := Lib.hid hy
          have lx : lenQ x 3 := HLE.out.2.1 x (List.mem_of_getElem? HQ0.out)
          have ly : lenQ y 3 := HLE.out.2.2 y (List.mem_of_getElem? hy)
          have lxy : lenQ (x * y) 6 := lenQ_mul lx ly
          clear hy
          have hneq : q ≠ [] := List.length_pos_iff.1 (by omega)
          have sB := bb.size
          go_upto_region 6 with (fail)
          have lt4_4 := Blk.lt BR0
          have lt4_6 := Blk.lt B6
          refine flowp 5 [Pd.eq (.int .i64 (k : Int)), Pd.eq (.pointer (some ⟨g0_, o0_ + k * 3, none⟩)), Pd.eq (.agg #[.bool (ngB x.num), .slice Ae0 (digs 4294967296 x.num.natAbs).length ce0, .slice De0 (digs 4294967296 x.den).length ee0]), pn 34 #[.bool false, .slice none 0 0, .slice none 0 0] wr.heap.size, Pd.eq (.int .i64 (k : Int))] (by kernel_rfl) ?ob10 ?done10
          case ob10 =>
            refine And.intro (ob_move rfl (wt_none rfl) (ev_far rfl rfl) (fun _ _ h => h)) ?_
            refine And.intro (ob_indexAddr rfl (wt_none rfl) (ev_far rfl rfl) (ev_far rfl rfl) (fun _ _ _ hx hy => ⟨_, by rw [hx, hy]; exact index3 Try.underlying22 (by kernel_rfl) hlt _, rfl⟩)) ?_
            refine And.intro (ob_load rfl (wt_none rfl) (ev_dep (j := 1) (by kernel_rfl) rfl rfl) (fun w2 hb => load3 Try.underlying34 rfl (by kernel_rfl) ((hb.cell (World.block_lt_of_cell? wr _ e00)).trans e00) ((hb.cell (World.block_lt_of_cell? wr _ e01)).trans e01) ((hb.cell (World.block_lt_of_cell? wr _ e02)).trans e02)) (fun _ _ => rfl)) ?_
            refine And.intro (ob_alloc (z := .agg #[.bool false, .slice none 0 0, .slice none 0 0]) rfl rfl (fun _ => by kernel_rfl) (fun _ _ hB h => ⟨_, rfl, hB, h⟩)) ?_
            refine And.intro (ob_assign rfl (wt_none rfl) (ev_dep (j := 0) (by kernel_rfl) rfl rfl) (fun _ _ h => h)) ?_
            trivial
          case done10 =>
            refine fun w5 hb5 v0 h0 v1 h1 v2 h2 v3 h3 d3 v4 h4 b hbf => ?_
            obtain rfl := h0; obtain rfl := h1; obtain rfl := h2; obtain rfl := h4
            obtain ⟨g10_3, rfl, hg3, B3⟩ := h3
            simp only [Act.put, List.setIfInBounds_toArray, List.set_cons_zero, List.set_cons_succ] at hbf
            subst hbf
            replace BR0 := BR0.below hb5
            replace B6 := B6.below hb5
            replace k6s := k6s.below hb5
            replace k6d := k6d.below hb5
            replace k6z := k6z.below hb5
            replace k6 := k6.below hb5
            replace es0 := es0.below hb5
            replace ed0 := ed0.below hb5
            replace bb := bb.trans (hb5.mono bb.size)
            have hsz5 := bb.size
            have BA8 := B3
            have q2 := es0
            have d2 := ed0
            refine ops_store (i := 5) rfl rfl rfl rfl rfl rfl (cells := [.bool (ngB (x).num), .slice Ae0 (digs 4294967296 (x).num.natAbs).length ce0, .slice De0 (digs 4294967296 (x).den).length ee0]) rfl BA8 rfl (by kernel_rfl) (one3 rfl rfl rfl) fun w6 hg6 BN6 => ?_
            replace q2 := off q2 BA8 no_ints3 hg6
            replace d2 := off d2 BA8 no_ints3 hg6
            replace BR0 := BR0.grown hg6 (by omega)
            replace k6s := off k6s BA8 no_ints3 hg6
            replace k6d := off k6d BA8 no_ints3 hg6
            replace k6z : IsZ w6 (.agg #[.bool (ngB (s).num), .slice A6 (digs 4294967296 (s).num.natAbs).length c6]) ((s).num) := ⟨_, rfl, k6s⟩
            replace k6 : IsQ w6 (.agg #[.bool (ngB (s).num), .slice A6 (digs 4294967296 (s).num.natAbs).length c6, .slice D6 (digs 4294967296 (s).den).length e6]) (s) := ⟨_, _, rfl, k6s, k6d⟩
            replace B6 := B6.grown hg6 (by omega)
            replace bb := bb.trans ((Below.refl _ _).grown hg6 bb.size (fun g hg => by injection hg with hg; omega))
            have hsz6 := bb.size
            have Be0 : Blk w6 (g10_3) _ _ := BN6
            have ke0s := q2
            have ke0d := d2
            have ke0z : IsZ w6 (.agg #[.bool (ngB (x).num), .slice Ae0 (digs 4294967296 (x).num.natAbs).length ce0]) ((x).num) := ⟨_, rfl, ke0s⟩
            have ke0 : IsQ w6 (.agg #[.bool (ngB (x).num), .slice Ae0 (digs 4294967296 (x).num.natAbs).length ce0, .slice De0 (digs 4294967296 (x).den).length ee0]) (x) := ⟨_, _, rfl, ke0s, ke0d⟩
            refine ops_done ?_
            obtain ⟨g1_, o1_, cp1_, hA1_, _, _, _⟩ := sl1.place hneq
            injection hA1_ with e1_ _ e3_
            subst e1_
            subst e3_
            obtain ⟨uy, ty, hlty, zy0, zy1, zy2, zys, zyd⟩ := (sl1.below bb).at2 HY.out
            obtain ⟨Ay, cy, rfl, _⟩ := id zys
            obtain ⟨Dy, ey, rfl, _⟩ := id zyd
            have zy : IsQ w6 (.agg #[.bool (ngB (y).num), .slice Ay (digs 4294967296 (y).num.natAbs).length cy, .slice Dy (digs 4294967296 (y).den).length ey]) (y) := ⟨_, _, rfl, zys, zyd⟩
            by_cases hv : x * y = 0
            · have HV : Hid (true = decide (x * y = 0)) := (decide_eq_true hv).symm
              have HN : Hid (s = sumq ((prods p q).take (k + 1))) := by show _ = _; rw [take_snoc (show (prods p q)[k]? = some (x * y) from zip_at HQ0.out HY.out), sumq_snoc, hv, Rat.add_zero, HS.out]
              clear hv
              have sB := bb.size
              go_upto_region 7 with (fail)
              refine flow 7 [Pd.eq (.agg #[.bool (ngB (x).num), .slice Ae0 (digs 4294967296 (x).num.natAbs).length ce0, .slice De0 (digs 4294967296 (x).den).length ee0]), Pd.eq (.slice (some ⟨g1_, o1_, none⟩) q.length c1), Pd.eq (.int .i64 (k : Int)), Pd.eq (.pointer (some ⟨g1_, o1_ + k * 3, none⟩)), Pd.eq (.agg #[.bool (ngB (y).num), .slice Ay (digs 4294967296 (y).num.natAbs).length cy, .slice Dy (digs 4294967296 (y).den).length ey]), Pd.eq (.bool true), Pd.eq (.bool false)] (by kernel_rfl) (by kernel_rfl) ?ob11 ?done11
              case ob11 =>
                refine And.intro (ob_load rfl (wt_none rfl) (ev_far rfl rfl) (fun w2 hb => run_loadAll Try.underlying34 rfl (by kernel_rfl) (Be0.drew.below hb)) (fun _ _ => rfl)) ?_
                refine And.intro (ob_move rfl (wt_none rfl) (ev_far rfl rfl) (fun _ _ h => h)) ?_
                refine And.intro (ob_move rfl (wt_none rfl) (ev_far rfl rfl) (fun _ _ h => h)) ?_
                refine And.intro (ob_indexAddr rfl (wt_none rfl) (ev_dep (j := 1) (by kernel_rfl) rfl rfl) (ev_dep (j := 2) (by kernel_rfl) rfl rfl) (fun _ _ _ hx hy => ⟨_, by rw [hx, hy]; exact index3 (k := k) Try.underlying22 (by kernel_rfl) hlty _, rfl⟩)) ?_
                refine And.intro (ob_load rfl (wt_none rfl) (ev_dep (j := 3) (by kernel_rfl) rfl rfl) (fun w2 hb => load3 Try.underlying34 rfl (by kernel_rfl) ((hb.cell (World.block_lt_of_cell? w6 _ zy0)).trans zy0) ((hb.cell (World.block_lt_of_cell? w6 _ zy1)).trans zy1) ((hb.cell (World.block_lt_of_cell? w6 _ zy2)).trans zy2)) (fun _ _ => rfl)) ?_
                refine And.intro (ob_call2 rfl Try.func31 (by kernel_rfl) (wt_none rfl) (ev_dep (j := 0) (by kernel_rfl) rfl rfl) (ev_dep (j := 4) (by kernel_rfl) rfl rfl) (fun w2 u0 u1 hb h0 h1 => by obtain rfl := h0; obtain rfl := h1; exact (vanishes_any _ _ (x) (y) true _ (ke0.drew.below hb) (zy.drew.below hb) HV.out).mono fun e w3 h => RetV.pd h)) ?_
                refine And.intro (ob_un rfl (wt_none rfl) (ev_dep (j := 5) (by kernel_rfl) rfl rfl) (fun _ => un_not _ _) (fun _ => rfl)) ?_
                trivial
              case done11 =>
                refine fun w8 hb8 v0 h0 v1 h1 v2 h2 v3 h3 v4 h4 v5 h5 v6 h6 b hbf => ?_
                obtain rfl := h0; obtain rfl := h1; obtain rfl := h2; obtain rfl := h3; obtain rfl := h4; obtain rfl := h5; obtain rfl := h6
                simp only [Act.put, List.setIfInBounds_toArray, List.set_cons_zero, List.set_cons_succ] at hbf
                subst hbf
                replace BR0 := BR0.below hb8
                replace B6 := B6.below hb8
                replace k6s := k6s.below hb8
                replace k6d := k6d.below hb8
                replace k6z := k6z.below hb8
                replace k6 := k6.below hb8
                replace Be0 := Be0.below hb8
                replace ke0s := ke0s.below hb8
                replace ke0d := ke0d.below hb8
                replace ke0z := ke0z.below hb8
                replace ke0 := ke0.below hb8
                replace bb := bb.trans (hb8.mono bb.size)
                have hsz8 := bb.size
                refine any_done (by kernel_rfl) ?_
                have hsk : p.length - (k + 1) < p.length - k := by omega
                go_wp2
                go_roundw
                case rel => exact ⟨k + 1, by omega, by rw [← HN.out]; exact ⟨_, _, B6, k6s, k6d⟩, BR0, bb, B6.lt, by go_num⟩
                case measure => simp [intOf]; omega
            · have HV : Hid (false = decide (x * y = 0)) := (decide_eq_false hv).symm
              clear hv
              have sB := bb.size
              go_upto_region 7 with (fail)
              refine flow 7 [Pd.eq (.agg #[.bool (ngB (x).num), .slice Ae0 (digs 4294967296 (x).num.natAbs).length ce0, .slice De0 (digs 4294967296 (x).den).length ee0]), Pd.eq (.slice (some ⟨g1_, o1_, none⟩) q.length c1), Pd.eq (.int .i64 (k : Int)), Pd.eq (.pointer (some ⟨g1_, o1_ + k * 3, none⟩)), Pd.eq (.agg #[.bool (ngB (y).num), .slice Ay (digs 4294967296 (y).num.natAbs).length cy, .slice Dy (digs 4294967296 (y).den).length ey]), Pd.eq (.bool false), Pd.eq (.bool true)] (by kernel_rfl) (by kernel_rfl) ?ob12 ?done12
              case ob12 =>
                refine And.intro (ob_load rfl (wt_none rfl) (ev_far rfl rfl) (fun w2 hb => run_loadAll Try.underlying34 rfl (by kernel_rfl) (Be0.drew.below hb)) (fun _ _ => rfl)) ?_
                refine And.intro (ob_move rfl (wt_none rfl) (ev_far rfl rfl) (fun _ _ h => h)) ?_
                refine And.intro (ob_move rfl (wt_none rfl) (ev_far rfl rfl) (fun _ _ h => h)) ?_
                refine And.intro (ob_indexAddr rfl (wt_none rfl) (ev_dep (j := 1) (by kernel_rfl) rfl rfl) (ev_dep (j := 2) (by kernel_rfl) rfl rfl) (fun _ _ _ hx hy => ⟨_, by rw [hx, hy]; exact index3 (k := k) Try.underlying22 (by kernel_rfl) hlty _, rfl⟩)) ?_
                refine And.intro (ob_load rfl (wt_none rfl) (ev_dep (j := 3) (by kernel_rfl) rfl rfl) (fun w2 hb => load3 Try.underlying34 rfl (by kernel_rfl) ((hb.cell (World.block_lt_of_cell? w6 _ zy0)).trans zy0) ((hb.cell (World.block_lt_of_cell? w6 _ zy1)).trans zy1) ((hb.cell (World.block_lt_of_cell? w6 _ zy2)).trans zy2)) (fun _ _ => rfl)) ?_
                refine And.intro (ob_call2 rfl Try.func31 (by kernel_rfl) (wt_none rfl) (ev_dep (j := 0) (by kernel_rfl) rfl rfl) (ev_dep (j := 4) (by kernel_rfl) rfl rfl) (fun w2 u0 u1 hb h0 h1 => by obtain rfl := h0; obtain rfl := h1; exact (vanishes_any _ _ (x) (y) false _ (ke0.drew.below hb) (zy.drew.below hb) HV.out).mono fun e w3 h => RetV.pd h)) ?_
                refine And.intro (ob_un rfl (wt_none rfl) (ev_dep (j := 5) (by kernel_rfl) rfl rfl) (fun _ => un_not _ _) (fun _ => rfl)) ?_
                trivial
              case done12 =>
                refine fun w8 hb8 v0 h0 v1 h1 v2 h2 v3 h3 v4 h4 v5 h5 v6 h6 b hbf => ?_
                obtain rfl := h0; obtain rfl := h1; obtain rfl := h2; obtain rfl := h3; obtain rfl := h4; obtain rfl := h5; obtain rfl := h6
                simp only [Act.put, List.setIfInBounds_toArray, List.set_cons_zero, List.set_cons_succ] at hbf
                subst hbf
                replace BR0 := BR0.below hb8
                replace B6 := B6.below hb8
                replace k6s := k6s.below hb8
                replace k6d := k6d.below hb8
                replace k6z := k6z.below hb8
                replace k6 := k6.below hb8
                replace Be0 := Be0.below hb8
                replace ke0s := ke0s.below hb8
                replace ke0d := ke0d.below hb8
                replace ke0z := ke0z.below hb8
                replace ke0 := ke0.below hb8
                replace bb := bb.trans (hb8.mono bb.size)
                have hsz8 := bb.size
                refine any_done (by kernel_rfl) ?_
                clear zy zy0 zy1 zy2 zys zyd
                obtain ⟨ub, tb, hltb, zb0, zb1, zb2, zbs, zbd⟩ := (sl1.below bb).at2 HY.out
                obtain ⟨Ab, cb, rfl, _⟩ := id zbs
                obtain ⟨Db, eb, rfl, _⟩ := id zbd
                have zb : IsQ w8 (.agg #[.bool (ngB (y).num), .slice Ab (digs 4294967296 (y).num.natAbs).length cb, .slice Db (digs 4294967296 (y).den).length eb]) (y) := ⟨_, _, rfl, zbs, zbd⟩
                have sB := bb.size
                go_upto_region 8 with (fail)
                refine flow 8 [Pd.eq (.agg #[.bool (ngB (s).num), .slice A6 (digs 4294967296 (s).num.natAbs).length c6, .slice D6 (digs 4294967296 (s).den).length e6]), Pd.eq (.agg #[.bool (ngB (x).num), .slice Ae0 (digs 4294967296 (x).num.natAbs).length ce0, .slice De0 (digs 4294967296 (x).den).length ee0]), Pd.eq (.slice (some ⟨g1_, o1_, none⟩) q.length c1), Pd.eq (.int .i64 (k : Int)), Pd.eq (.pointer (some ⟨g1_, o1_ + k * 3, none⟩)), Pd.eq (.agg #[.bool (ngB (y).num), .slice Ab (digs 4294967296 (y).num.natAbs).length cb, .slice Db (digs 4294967296 (y).den).length eb]), pqn (x * y), pq ((s + x * y)) w8.heap.size] (by kernel_rfl) (by kernel_rfl) ?ob13 ?done13
                case ob13 =>
                  refine And.intro (ob_load rfl (wt_none rfl) (ev_far rfl rfl) (fun w2 hb => run_loadAll Try.underlying34 rfl (by kernel_rfl) (B6.drew.below hb)) (fun _ _ => rfl)) ?_
                  refine And.intro (ob_load rfl (wt_none rfl) (ev_far rfl rfl) (fun w2 hb => run_loadAll Try.underlying34 rfl (by kernel_rfl) (Be0.drew.below hb)) (fun _ _ => rfl)) ?_
                  refine And.intro (ob_move rfl (wt_none rfl) (ev_far rfl rfl) (fun _ _ h => h)) ?_
                  refine And.intro (ob_move rfl (wt_none rfl) (ev_far rfl rfl) (fun _ _ h => h)) ?_
                  refine And.intro (ob_indexAddr rfl (wt_none rfl) (ev_dep (j := 2) (by kernel_rfl) rfl rfl) (ev_dep (j := 3) (by kernel_rfl) rfl rfl) (fun _ _ _ hx hy => ⟨_, by rw [hx, hy]; exact index3 (k := k) Try.underlying22 (by kernel_rfl) hltb _, rfl⟩)) ?_
                  refine And.intro (ob_load rfl (wt_none rfl) (ev_dep (j := 4) (by kernel_rfl) rfl rfl) (fun w2 hb => load3 Try.underlying34 rfl (by kernel_rfl) ((hb.cell (World.block_lt_of_cell? w8 _ zb0)).trans zb0) ((hb.cell (World.block_lt_of_cell? w8 _ zb1)).trans zb1) ((hb.cell (World.block_lt_of_cell? w8 _ zb2)).trans zb2)) (fun _ _ => rfl)) ?_
                  refine And.intro (ob_call2 rfl Try.func18 (by kernel_rfl) (wt_none rfl) (ev_dep (j := 1) (by kernel_rfl) rfl rfl) (ev_dep (j := 5) (by kernel_rfl) rfl rfl) (fun w2 u0 u1 hb h0 h1 => by obtain rfl := h0; obtain rfl := h1; exact (mul8_any _ x _ y _ (ke0.drew.below hb) (zb.drew.below hb) (lx.mono (by decide)) (ly.mono (by decide))).mono fun e w3 h => RetQn.pd h.n)) ?_
                  refine And.intro (ob_call2 rfl Try.func17 (by kernel_rfl) (wt_none rfl) (ev_dep (j := 0) (by kernel_rfl) rfl rfl) (ev_dep (j := 6) (by kernel_rfl) rfl rfl) (fun w2 u0 u1 hb h0 h1 => by obtain rfl := h0; exact (add8_any _ s _ (x * y) _ (k6.drew.below hb) h1 (ls.mono (by decide)) (lxy.mono (by decide))).mono fun e w3 h => RetQ.pd h hb.size)) ?_
                  trivial
                case done13 =>
                  refine fun w9 hb9 v0 h0 v1 h1 v2 h2 v3 h3 v4 h4 v5 h5 v6 h6 v7 h7 b hbf => ?_
                  obtain rfl := h0; obtain rfl := h1; obtain rfl := h2; obtain rfl := h3; obtain rfl := h4; obtain rfl := h5
                  have q6 := h6
                  obtain ⟨q7, f7⟩ := h7
                  simp only [Act.put, List.setIfInBounds_toArray, List.set_cons_zero, List.set_cons_succ] at hbf
                  subst hbf
                  replace BR0 := BR0.below hb9
                  replace B6 := B6.below hb9
                  replace k6s := k6s.below hb9
                  replace k6d := k6d.below hb9
                  replace k6z := k6z.below hb9
                  replace k6 := k6.below hb9
                  replace Be0 := Be0.below hb9
                  replace ke0s := ke0s.below hb9
                  replace ke0d := ke0d.below hb9
                  replace ke0z := ke0z.below hb9
                  replace ke0 := ke0.below hb9
                  replace bb := bb.trans (hb9.mono bb.size)
                  have hsz9 := bb.size
                  have s_7 := sB
                  obtain ⟨u7, t7, rfl, q7, d7⟩ := q7
                  obtain ⟨A4, c4, rfl, _⟩ := id q7
                  obtain ⟨D4, e4, rfl, _⟩ := id d7
                  refine any_store (i := 8) (by kernel_rfl) rfl rfl rfl rfl rfl rfl (cells := [.bool (ngB ((s + x * y)).num), .slice A4 (digs 4294967296 ((s + x * y)).num.natAbs).length c4, .slice D4 (digs 4294967296 ((s + x * y)).den).length e4]) rfl B6 rfl (by kernel_rfl) (one3 rfl rfl rfl) fun w10 hg10 BN10 => ?_
                  replace q7 := off q7 B6 no_ints3 hg10
                  replace d7 := off d7 B6 no_ints3 hg10
                  replace BR0 := BR0.grown hg10 (by omega)
                  replace ke0s := off ke0s B6 no_ints3 hg10
                  replace ke0d := off ke0d B6 no_ints3 hg10
                  replace ke0z : IsZ w10 (.agg #[.bool (ngB (x).num), .slice Ae0 (digs 4294967296 (x).num.natAbs).length ce0]) ((x).num) := ⟨_, rfl, ke0s⟩
                  replace ke0 : IsQ w10 (.agg #[.bool (ngB (x).num), .slice Ae0 (digs 4294967296 (x).num.natAbs).length ce0, .slice De0 (digs 4294967296 (x).den).length ee0]) (x) := ⟨_, _, rfl, ke0s, ke0d⟩
                  replace Be0 := Be0.grown hg10 (by omega)
                  replace bb := bb.trans ((Below.refl _ _).grown hg10 bb.size (fun g hg => by injection hg with hg; omega))
                  have hsz10 := bb.size
                  have B4 : Blk w10 (g9_1) _ _ := BN10
                  have k4s := q7
                  have k4d := d7
                  have k4z : IsZ w10 (.agg #[.bool (ngB ((s + x * y)).num), .slice A4 (digs 4294967296 ((s + x * y)).num.natAbs).length c4]) (((s + x * y)).num) := ⟨_, rfl, k4s⟩
                  have k4 : IsQ w10 (.agg #[.bool (ngB ((s + x * y)).num), .slice A4 (digs 4294967296 ((s + x * y)).num.natAbs).length c4, .slice D4 (digs 4294967296 ((s + x * y)).den).length e4]) ((s + x * y)) := ⟨_, _, rfl, k4s, k4d⟩
                  refine any_done (by kernel_rfl) ?_
                  have HN : Hid (s + x * y = sumq ((prods p q).take (k + 1))) := by show _ = _; rw [take_snoc (show (prods p q)[k]? = some (x * y) from zip_at HQ0.out HY.out), sumq_snoc, HS.out]
                  have hsk : p.length - (k + 1) < p.length - k := by omega
                  go_wp2
                  go_roundw
                  case rel => exact ⟨k + 1, by omega, by rw [← HN.out]; exact ⟨_, _, B4, k4s, k4d⟩, BR0, bb, B4.lt, by go_num⟩
                  case measure => simp [intOf]; omega
        · have HN : Hid (s = dotq p q) := by show _ = _; rw [HS.out, List.take_of_length_le (by rw [show (prods p q).length = p.length from zip_len HE.out]; omega)]; rfl
          have sB := bb.size
          go_upto_region 10 with (fail)
          refine flowp 1 [Pd.eq (.agg #[.bool (ngB (s).num), .slice A6 (digs 4294967296 (s).num.natAbs).length c6, .slice D6 (digs 4294967296 (s).den).length e6])] (by kernel_rfl) ?ob14 ?done14
          case ob14 =>
            refine And.intro (ob_load rfl (wt_none rfl) (ev_far rfl rfl) (fun w2 hb => run_loadAll Try.underlying34 rfl (by kernel_rfl) (B6.below hb)) (fun _ _ => rfl)) ?_
            trivial
          case done14 =>
            refine fun w5 hb5 v0 h0 b hbf => ?_
            obtain rfl := h0
            simp only [Act.put, List.setIfInBounds_toArray, List.set_cons_zero, List.set_cons_succ] at hbf
            subst hbf
            replace BR0 := BR0.below hb5
            replace B6 := B6.below hb5
            replace k6s := k6s.below hb5
            replace k6d := k6d.below hb5
            replace k6z := k6z.below hb5
            replace k6 := k6.below hb5
            replace bb := bb.trans (hb5.mono bb.size)
            have hsz5 := bb.size
            refine ops_store (i := 1) rfl rfl rfl rfl rfl rfl (cells := [.bool (ngB (s).num), .slice A6 (digs 4294967296 (s).num.natAbs).length c6, .slice D6 (digs 4294967296 (s).den).length e6]) rfl BR0 rfl (by kernel_rfl) (one3 rfl rfl rfl) fun w9 hg9 B9 => ?_
            have k9 := off k6s BR0 no_ints3 hg9
            have d9 := off k6d BR0 no_ints3 hg9
            have bb9 := bb.trans ((Below.refl _ _).grown hg9 bb.size (fun g hg => by injection hg with hg; omega))
            obtain ⟨C0, C1, C2, _, _, _⟩ := three B9
            refine ops_assign (i := 2) (.int .i64 0) rfl rfl rfl rfl rfl fun b hbf => ?_
            simp only [Act.put, List.setIfInBounds_toArray, List.set_cons_zero, List.set_cons_succ] at hbf
            subst hbf
            refine ops_done ?_
            go_wp2
            rw [← HN.out]
            exact bodyPost_ret (v := .tuple #[.agg #[.bool (ngB (s).num), .slice A6 (digs 4294967296 (s).num.natAbs).length c6, .slice D6 (digs 4294967296 (s).den).length e6], .int .i64 0]) (by simp [results, Try.results15, go_sem, C0, C1, C2]) rfl ⟨_, rfl, ⟨_, _, rfl, k9, d9⟩, bb9⟩
set_option maxHeartbeats 3200000 in
set_option maxRecDepth 100000 in
theorem flead_any (a0 : Value) (p : List Rat) (n : Int) (w : World) (h0 : SlF .u64 4294967296 w a0 p) (hl : p.length ≤ 200 ∧ ∀ x ∈ p, lenQ x 3) (hn : n = (leadq p : Int)) :
    Calls Try.prog 10 #[a0] w (RetV (.int .i64 n) w) := by
  have bb : Below w.heap.size w w := Below.refl _ _
  have sl0 := h0
  obtain ⟨A0, c0, rfl, hc0, hm0⟩ := h0.shape
  unfold maxLen at hm0
  have HN := Lib.hid hn
  clear hn hl
  go_enter Try.func10, Try.ntmps10
  go_upto_region 1 with (fail)
  have hsz0 := bb.size
  go_wp2
  go_loopw [7] (fun v7 wr => ∃ k : Nat, k ≤ p.length ∧ Hid (∀ x ∈ p.take k, x = 0) ∧ Below w.heap.size w wr ∧ v7 = .int .i64 (k : Int)) (fun v7 _ => p.length - (intOf v7).toNat)
  case atStart => exact ⟨0, by omega, by show ∀ x ∈ _, _; intro x hx; simp at hx, bb, rfl⟩
  case round =>
    obtain ⟨k, hk, HA, hbw, rfl⟩ := hrel
    clear bb
    have bb := hbw
    clear hbw
    have hszr := bb.size
    by_cases hlt : k < p.length
    · obtain ⟨x, hq0_⟩ : ∃ x, p[k]? = some x := ⟨_, List.getElem?_eq_getElem hlt⟩
      obtain ⟨g0_, o0_, ue0, te0, hA0_, _, e00, e01, e02, es0, ed0⟩ := (sl0.below bb).at_ hq0_
      subst hA0_
      have HQ0 := Lib.hid hq0_
      clear hq0_
      obtain ⟨Ae0, ce0, rfl, _⟩ := id es0
      obtain ⟨De0, ee0, rfl, _⟩ := id ed0
      have ke0 : IsQ wr (.agg #[.bool (ngB x.num), .slice Ae0 (digs 4294967296 x.num.natAbs).length ce0, .slice De0 (digs 4294967296 x.den).length ee0]) x := ⟨_, _, rfl, es0, ed0⟩
      have sB := bb.size
      go_upto_region 3 with (fail)
      refine flowp 5 [Pd.eq (.int .i64 (k : Int)), Pd.eq (.pointer (some ⟨g0_, o0_ + k * 3, none⟩)), Pd.eq (.agg #[.bool (ngB x.num), .slice Ae0 (digs 4294967296 x.num.natAbs).length ce0, .slice De0 (digs 4294967296 x.den).length ee0]), pn 34 #[.bool false, .slice none 0 0, .slice none 0 0] wr.heap.size, Pd.eq (.int .i64 (k : Int))] (by kernel_rfl) ?ob15 ?done15
      case ob15 =>
        refine And.intro (ob_move rfl (wt_none rfl) (ev_far rfl rfl) (fun _ _ h => h)) ?_
        refine And.intro (ob_indexAddr rfl (wt_none rfl) (ev_far rfl rfl) (ev_far rfl rfl) (fun _ _ _ hx hy => ⟨_, by rw [hx, hy]; exact index3 Try.underlying22 (by kernel_rfl) hlt _, rfl⟩)) ?_
        refine And.intro (ob_load rfl (wt_none rfl) (ev_dep (j := 1) (by kernel_rfl) rfl rfl) (fun w2 hb => load3 Try.underlying34 rfl (by kernel_rfl) ((hb.cell (World.block_lt_of_cell? wr _ e00)).trans e00) ((hb.cell (World.block_lt_of_cell? wr _ e01)).trans e01) ((hb.cell (World.block_lt_of_cell? wr _ e02)).trans e02)) (fun _ _ => rfl)) ?_
        refine And.intro (ob_alloc (z := .agg #[.bool false, .slice none 0 0, .slice none 0 0]) rfl rfl (fun _ => by kernel_rfl) (fun _ _ hB h => ⟨_, rfl, hB, h⟩)) ?_
        refine And.intro (ob_assign rfl (wt_none rfl) (ev_dep (j := 0) (by kernel_rfl) rfl rfl) (fun _ _ h => h)) ?_
        trivial
      case done15 =>
        refine fun w2 hb2 v0 h0 v1 h1 v2 h2 v3 h3 d3 v4 h4 b hbf => ?_
        obtain rfl := h0; obtain rfl := h1; obtain rfl := h2; obtain rfl := h4
        obtain ⟨g15_3, rfl, hg3, B3⟩ := h3
        simp only [Act.put, List.setIfInBounds_toArray, List.set_cons_zero, List.set_cons_succ] at hbf
        subst hbf
        replace es0 := es0.below hb2
        replace ed0 := ed0.below hb2
        replace bb := bb.trans (hb2.mono bb.size)
        have hsz2 := bb.size
        have BA4 := B3
        have q2 := es0
        have d2 := ed0
        refine ops_store (i := 5) rfl rfl rfl rfl rfl rfl (cells := [.bool (ngB (x).num), .slice Ae0 (digs 4294967296 (x).num.natAbs).length ce0, .slice De0 (digs 4294967296 (x).den).length ee0]) rfl BA4 rfl (by kernel_rfl) (one3 rfl rfl rfl) fun w3 hg3 BN3 => ?_
        replace q2 := off q2 BA4 no_ints3 hg3
        replace d2 := off d2 BA4 no_ints3 hg3
        replace bb := bb.trans ((Below.refl _ _).grown hg3 bb.size (fun g hg => by injection hg with hg; omega))
        have hsz3 := bb.size
        have Be0 : Blk w3 (g15_3) _ _ := BN3
        have ke0s := q2
        have ke0d := d2
        have ke0z : IsZ w3 (.agg #[.bool (ngB (x).num), .slice Ae0 (digs 4294967296 (x).num.natAbs).length ce0]) ((x).num) := ⟨_, rfl, ke0s⟩
        have ke0 : IsQ w3 (.agg #[.bool (ngB (x).num), .slice Ae0 (digs 4294967296 (x).num.natAbs).length ce0, .slice De0 (digs 4294967296 (x).den).length ee0]) (x) := ⟨_, _, rfl, ke0s, ke0d⟩
        refine ops_done ?_
        obtain ⟨t, ht⟩ : ∃ t, t = ordz x.num 0 := ⟨_, rfl⟩
        have HT := Lib.hid ht
        by_cases hx : x = 0
        · have HTB : Hid ((t != 0) = false) := by show _ = _; rw [ht, hx]; rfl
          have HA2 : Hid (∀ y ∈ p.take (k + 1), y = 0) := by
            show ∀ y ∈ _, _
            rw [take_snoc HQ0.out]
            intro y hy
            rcases List.mem_append.1 hy with hy | hy
            · exact HA.out y hy
            · rw [List.mem_singleton.1 hy]; exact hx
          clear ht hx
          have sB := bb.size
          go_upto_region 4 with (fail)
          refine flowp 3 [Pd.eq (.agg #[.bool (ngB (x).num), .slice Ae0 (digs 4294967296 (x).num.natAbs).length ce0, .slice De0 (digs 4294967296 (x).den).length ee0]), Pd.eq (.int .i64 t), Pd.eq (.bool false)] (by kernel_rfl) ?ob16 ?done16
          case ob16 =>
            refine And.intro (ob_load rfl (wt_none rfl) (ev_far rfl rfl) (fun w2 hb => run_loadAll Try.underlying34 rfl (by kernel_rfl) (Be0.below hb)) (fun _ _ => rfl)) ?_
            refine And.intro (ob_call1 rfl Try.func23 (by kernel_rfl) (wt_none rfl) (ev_dep (j := 0) (by kernel_rfl) rfl rfl) (fun w2 u0 hb h0 => by obtain rfl := h0; exact (fsign0_any _ x t _ (ke0.below hb) HT.out).mono fun e w3 h => RetV.pd h)) ?_
            refine And.intro (ob_bin rfl (wt_none rfl) (ev_dep (j := 1) (by kernel_rfl) rfl rfl) (ev_const _) (fun _ _ _ hx hy => ⟨.bool false, by rw [hx, hy, bin_neq_int, HTB.out], rfl⟩)) ?_
            trivial
          case done16 =>
            refine fun w5 hb5 v0 h0 v1 h1 v2 h2 b hbf => ?_
            obtain rfl := h0; obtain rfl := h1; obtain rfl := h2
            simp only [Act.put, List.setIfInBounds_toArray, List.set_cons_zero, List.set_cons_succ] at hbf
            subst hbf
            replace Be0 := Be0.below hb5
            replace ke0s := ke0s.below hb5
            replace ke0d := ke0d.below hb5
            replace ke0z := ke0z.below hb5
            replace ke0 := ke0.below hb5
            replace bb := bb.trans (hb5.mono bb.size)
            have hsz5 := bb.size
            refine ops_done ?_
            have hsk : p.length - (k + 1) < p.length - k := by omega
            go_wp2
            go_roundw
            case rel => exact ⟨k + 1, by omega, HA2, bb, by go_num⟩
            case measure => simp [intOf]; omega
        · have HTB : Hid ((t != 0) = true) := by
            show _ = _
            rw [bne_iff_ne, ht]
            intro e
            have hz : x.num ≠ 0 := fun h => hx (Rat.num_eq_zero.1 h)
            rcases Int.lt_or_gt_of_ne hz with h | h
            · rw [ordz_lt h] at e; cases e
            · rw [ordz_gt h] at e; cases e
          have HK : Hid (n = (k : Int)) := by show _ = _; rw [HN.out, leadq_is (by omega) HA.out (fun y hy => by rw [HQ0.out] at hy; exact Option.some.inj hy ▸ hx)]
          clear ht hx
          have sB := bb.size
          go_upto_region 4 with (fail)
          refine flowp 3 [Pd.eq (.agg #[.bool (ngB (x).num), .slice Ae0 (digs 4294967296 (x).num.natAbs).length ce0, .slice De0 (digs 4294967296 (x).den).length ee0]), Pd.eq (.int .i64 t), Pd.eq (.bool true)] (by kernel_rfl) ?ob17 ?done17
          case ob17 =>
            refine And.intro (ob_load rfl (wt_none rfl) (ev_far rfl rfl) (fun w2 hb => run_loadAll Try.underlying34 rfl (by kernel_rfl) (Be0.below hb)) (fun _ _ => rfl)) ?_
            refine And.intro (ob_call1 rfl Try.func23 (by kernel_rfl) (wt_none rfl) (ev_dep (j := 0) (by kernel_rfl) rfl rfl) (fun w2 u0 hb h0 => by obtain rfl := h0; exact (fsign0_any _ x t _ (ke0.below hb) HT.out).mono fun e w3 h => RetV.pd h)) ?_
            refine And.intro (ob_bin rfl (wt_none rfl) (ev_dep (j := 1) (by kernel_rfl) rfl rfl) (ev_const _) (fun _ _ _ hx hy => ⟨.bool true, by rw [hx, hy, bin_neq_int, HTB.out], rfl⟩)) ?_
            trivial
          case done17 =>
            refine fun w5 hb5 v0 h0 v1 h1 v2 h2 b hbf => ?_
            obtain rfl := h0; obtain rfl := h1; obtain rfl := h2
            simp only [Act.put, List.setIfInBounds_toArray, List.set_cons_zero, List.set_cons_succ] at hbf
            subst hbf
            replace Be0 := Be0.below hb5
            replace ke0s := ke0s.below hb5
            replace ke0d := ke0d.below hb5
            replace ke0z := ke0z.below hb5
            replace ke0 := ke0.below hb5
            replace bb := bb.trans (hb5.mono bb.size)
            have hsz5 := bb.size
            refine ops_done ?_
            go_wp2
            go_ret
            exact ⟨by rw [HK.out]; rfl, bb⟩
    · have HK : Hid (n = ((p.length : Nat) : Int)) := by show _ = _; rw [HN.out, leadq_is (k := p.length) (Nat.le_refl _) (fun x hx => HA.out x (by rwa [List.take_of_length_le (by omega)] at hx ⊢)) (fun y hy => by have := (List.getElem?_eq_some_iff.1 hy).1; omega)]
      go_wp2
      go_ret
      exact ⟨by rw [HK.out]; rfl, bb⟩
section
variable {P : Program}
theorem bin_add_nat {t : TypeId} (x y : Operand) (a b : Nat) (h : a + b ≤ 9223372036854775807) (w : World) : (do eqGuard .add t x y (.int .i64 (a : Int)) (.int .i64 (b : Int)); binOp .add t (.int .i64 (a : Int)) (.int .i64 (b : Int))).run P w = .ok (.int .i64 ((a + b : Nat) : Int)) w := by
  have h0 : (eqGuard .add t x y (.int .i64 (a : Int)) (.int .i64 (b : Int))).run P w = .ok () w := by simp [eqGuard]
  have e : IntKind.i64.wrap ((a : Int) + (b : Int)) = ((a + b : Nat) : Int) := by rw [IntKind.wrap_i64]; omega
  rw [Sem.run_bind, h0, Result.andThen_ok]
  simp [binOp, Op.intArith, go_sem, e]
end
/-- A slice of these. -/
def psq (qs : List Rat) : Pd := ⟨fun w v => SlF .u64 4294967296 w v qs, fun h hb => h.below hb⟩
/-- A row of two rows. -/
def Two (w : World) (v : Value) (p q : List Rat) : Prop := ∃ u0 u1, IsV w v [u0, u1] ∧ SlF .u64 4294967296 w u0 p ∧ SlF .u64 4294967296 w u1 q
theorem Two.below {w w' : World} {v : Value} {p q : List Rat} (h : Two w v p q) (hb : Below w.heap.size w w') : Two w' v p q := by
  obtain ⟨u0, u1, h1, h2, h3⟩ := h
  exact ⟨u0, u1, h1.below hb, h2.below hb, h3.below hb⟩
def pvv (p q : List Rat) : Pd := ⟨fun w v => Two w v p q, fun h hb => h.below hb⟩
theorem slF_lit2 (w : World) (T : TypeId) {q r : Rat} {u t u' t' : Value} (h1 : IsS w .u64 u (digs 4294967296 q.num.natAbs)) (h2 : IsS w .u64 t (digs 4294967296 q.den)) (h3 : IsS w .u64 u' (digs 4294967296 r.num.natAbs)) (h4 : IsS w .u64 t' (digs 4294967296 r.den)) :
    SlF .u64 4294967296 (w.alloc (.cells #[.bool (ngB q.num), u, t, .bool (ngB r.num), u', t'] T)) (.slice (some ⟨w.heap.size, 0, none⟩) 2 2) [q, r] := by
  have hbb := below_alloc (w := w) (Nat.le_refl _) (.cells #[.bool (ngB q.num), u, t, .bool (ngB r.num), u', t'] T)
  have hB := Blk.new w T #[.bool (ngB q.num), u, t, .bool (ngB r.num), u', t']
  refine ⟨[(q, u, t), (r, u', t')], rfl, ⟨some ⟨w.heap.size, 0, none⟩, 2, rfl, Nat.le_refl _, by unfold maxLen; omega, fun i p hp => ?_⟩, fun p hp => ?_⟩
  · rcases i with _ | _ | i
    · obtain rfl : ((q, u, t) : Elt) = p := by simpa using hp
      exact ⟨_, _, rfl, hB.cell 0, hB.cell 1, hB.cell 2⟩
    · obtain rfl : ((r, u', t') : Elt) = p := by simpa using hp
      exact ⟨_, _, rfl, hB.cell 3, hB.cell 4, hB.cell 5⟩
    · simp at hp
  · rcases List.mem_cons.1 hp with rfl | hp
    · exact ⟨h1.below hbb, h2.below hbb⟩
    · obtain rfl := List.mem_singleton.1 hp
      exact ⟨h3.below hbb, h4.below hbb⟩
section
variable {P : Program} {Q : Exit → Act → World → Prop} {ops : Array Oper} {L : List Oper} {Φ : List Pd} {w0 : World} {a0 : Act} {i : Nat} {o : Oper}
theorem ob_lit2 {t T : TypeId} {x y : Operand} {q r : Rat} {F G : World → Value → Prop} (hop : o.op = .buildSlice t 2 #[(0, x), (1, y)]) (hw : Wt ops L Φ w0 a0 o true) (hx : Ev L Φ w0 a0 o x F) (hy : Ev L Φ w0 a0 o y G) (hu : P.underlying t = some (.slice T)) (hI : ∃ i, P.info? T = some i ∧ i.zero = some (.agg #[.bool false, .slice none 0 0, .slice none 0 0]) ∧ i.size = 3 ∧ i.bytes = 56)
    (hF : ∀ w v, F w v → IsQ w v q) (hG : ∀ w v, G w v → IsQ w v r) (hP : ∀ w v, SlF .u64 4294967296 w v [q, r] → (ph Φ i).p w v) : Ob P Q ops L Φ w0 a0 i o := by
  intro ms w hS
  rw [if_pos (hw ms w hS)]
  obtain ⟨u, t1, hv, h1, h2⟩ := hF _ _ (hx ms w hS)
  obtain ⟨u', t', hv', h3, h4⟩ := hG _ _ (hy ms w hS)
  have sl := slF_lit2 w T h1 h2 h3 h4
  have hbb := below_alloc (w := w) (Nat.le_refl _) (.cells #[.bool (ngB q.num), u, t1, .bool (ngB r.num), u', t'] T)
  obtain ⟨A1, c1, rfl, _⟩ := id h1
  obtain ⟨A2, c2, rfl, _⟩ := id h2
  obtain ⟨A3, c3, rfl, _⟩ := id h3
  obtain ⟨A4, c4, rfl, _⟩ := id h4
  obtain ⟨inf, hi, hz, hs, hb⟩ := hI
  have hr : (execOp (putM a0 L ms).eval o).run P w = .ok (.value (.slice (some ⟨w.heap.size, 0, none⟩) 2 2)) (w.alloc (.cells #[.bool (ngB q.num), .slice A1 (digs 4294967296 q.num.natAbs).length c1, .slice A2 (digs 4294967296 q.den).length c2, .bool (ngB r.num), .slice A3 (digs 4294967296 r.num.natAbs).length c3, .slice A4 (digs 4294967296 r.den).length c4] T)) := by
    generalize putM a0 L ms = A at hv hv'
    have hz0 : (zeroValue T).run P w = .ok (.agg #[.bool false, .slice none 0 0, .slice none 0 0]) w := by simp [zeroValue, go_sem, typeInfo, hi, hz]
    simp only [hop, execOp, List.map_toArray, List.map_cons, List.map_nil, hv, hv']
    generalize A.eval = ev
    simp [go_sem, run_underlying hu, sizeOf, typeInfo, hi, newRow, hs, hz0]
  unfold Oper.wp
  rw [hr]
  exact ⟨_, rfl, hbb, hP _ _ sl, fun h => by unfold isA at h; rw [hop] at h; cases h⟩
theorem ob_lit2v {t T : TypeId} {x y : Operand} {p q : List Rat} {F G : World → Value → Prop} (hop : o.op = .buildSlice t 2 #[(0, x), (1, y)]) (hw : Wt ops L Φ w0 a0 o true) (hx : Ev L Φ w0 a0 o x F) (hy : Ev L Φ w0 a0 o y G) (hu : P.underlying t = some (.slice T)) (hI : ∃ i, P.info? T = some i ∧ i.zero = some (.slice none 0 0) ∧ i.size = 1)
    (hF : ∀ w v, Below w0.heap.size w0 w → F w v → SlF .u64 4294967296 w v p) (hG : ∀ w v, Below w0.heap.size w0 w → G w v → SlF .u64 4294967296 w v q) (hP : ∀ w v, Two w v p q → (ph Φ i).p w v) : Ob P Q ops L Φ w0 a0 i o := by
  intro ms w hS
  rw [if_pos (hw ms w hS)]
  have h1 := hF _ _ hS.below (hx ms w hS)
  have h2 := hG _ _ hS.below (hy ms w hS)
  obtain ⟨A1, c1, hv, _, _⟩ := h1.shape
  obtain ⟨A2, c2, hv', _, _⟩ := h2.shape
  rw [hv] at h1
  rw [hv'] at h2
  obtain ⟨inf, hi, hz, hs⟩ := hI
  have hbb := below_alloc (w := w) (Nat.le_refl _) (.cells #[.slice A1 p.length c1, .slice A2 q.length c2] T)
  have hr : (execOp (putM a0 L ms).eval o).run P w = .ok (.value (.slice (some ⟨w.heap.size, 0, none⟩) 2 2)) (w.alloc (.cells #[.slice A1 p.length c1, .slice A2 q.length c2] T)) := by
    generalize putM a0 L ms = A at hv hv'
    have hz0 : (zeroValue T).run P w = .ok (.slice none 0 0) w := by simp [zeroValue, go_sem, typeInfo, hi, hz]
    simp only [hop, execOp, List.map_toArray, List.map_cons, List.map_nil, hv, hv']
    generalize A.eval = ev
    simp [go_sem, run_underlying hu, sizeOf, typeInfo, hi, newRow, hs, hz0]
  unfold Oper.wp
  rw [hr]
  exact ⟨_, rfl, hbb, hP _ _ ⟨_, _, isV_lit w T [.slice A1 p.length c1, .slice A2 q.length c2], h1.below hbb, h2.below hbb⟩, fun h => by unfold isA at h; rw [hop] at h; cases h⟩
theorem ob_min4 {x y z u : Operand} {at_ : Array TypeId} {a b c d : Nat} (hop : o.op = .call { callee := .builtin .min, args := #[x, y, z, u], argTypes := at_ }) (hw : Wt ops L Φ w0 a0 o true) (hx : Ev L Φ w0 a0 o x (fun _ v => v = .int .i64 (a : Int))) (hy : Ev L Φ w0 a0 o y (fun _ v => v = .int .i64 (b : Int))) (hz : Ev L Φ w0 a0 o z (fun _ v => v = .int .i64 (c : Int))) (hu : Ev L Φ w0 a0 o u (fun _ v => v = .int .i64 (d : Int)))
    (hP : ∀ w, (ph Φ i).p w (.int .i64 ((min (min (min a b) c) d : Nat) : Int))) : Ob P Q ops L Φ w0 a0 i o :=
  ob_val hw (by unfold isA; rw [hop]) fun ms w hS => by
    have e1 := hx ms w hS
    have e2 := hy ms w hS
    have e3 := hz ms w hS
    have e4 := hu ms w hS
    refine ⟨_, ?_, hP w⟩
    unfold execOp
    simp only [hop, resolve, invoke, builtin, Builtin.min_, List.map_toArray, List.map_cons, List.map_nil, List.foldlM_cons, List.foldlM_nil, e1, e2, e3, e4, Sem.run_bind, Sem.run_pure, Result.andThen_ok, min_nat]
end
theorem info_slq : ∃ i, Try.prog.info? 22 = some i ∧ i.zero = some (.slice none 0 0) ∧ i.size = 1 := by
  obtain ⟨i, h1, h2, h3, _⟩ := info_parts (P := Try.prog) (e := 22) (z := .slice none 0 0) (size := 1) (bytes := 24) (by kernel_rfl)
  exact ⟨i, h1, h2, h3⟩
theorem addq_zeros (p : List Rat) : addq (zerosq p.length) p = p := by
  refine List.ext_getElem? fun i => ?_
  unfold addq
  rw [List.getElem?_zipWith]
  rcases hp : p[i]? with _ | x
  · cases (zerosq p.length)[i]? <;> rfl
  · rw [zerosq_at (List.getElem?_eq_some_iff.1 hp).1]
    show some (0 + x) = some x
    rw [Rat.zero_add]
/-- What the row holds after m of the two rows were added. -/
def accq (p q : List Rat) : Nat → List Rat
  | 0 => zerosq p.length
  | 1 => p
  | _ => addq p q
theorem accq_len {p q : List Rat} (m : Nat) (h : m < 2 ∨ p.length = q.length) : (accq p q m).length = p.length := by
  match m, h with
  | 0, _ => exact zerosq_len _
  | 1, _ => rfl
  | m + 2, h => exact addq_len (by omega)
theorem accq_step {p q r : List Rat} {m : Nat} (hm : m < 2) (hr : r = if m = 0 then p else q) : addq (accq p q m) r = accq p q (m + 1) := by
  rcases (by omega : m = 0 ∨ m = 1) with rfl | rfl
  · have e : r = p := hr
    rw [e]; exact addq_zeros p
  · have e : r = q := hr
    rw [e]; rfl
set_option maxHeartbeats 6400000 in
set_option maxRecDepth 100000 in
theorem fvadd_both (a0 : Value) (p q : List Rat) (w : World) (h0 : Two w a0 p q) (hl : p.length ≤ 8 ∧ (∀ x ∈ p, lenQ x 1) ∧ ∀ x ∈ q, lenQ x 1) :
    Calls Try.prog 14 #[a0] w (fun e w' => (p.length = q.length ∧ RetQLE (addq p q) 0 w e w') ∨ (p.length ≠ q.length ∧ RetNN 8 w e w')) := by
  have bb : Below w.heap.size w w := Below.refl _ _
  obtain ⟨u0, u1, hV, hp, hq⟩ := h0
  obtain ⟨AV, cV, rfl, hcV, hcells⟩ := hV
  obtain ⟨ad, rfl, ec0⟩ := hcells 0 u0 rfl
  obtain ⟨ad', e_, ec1⟩ := hcells 1 u1 rfl
  obtain rfl : ad = ad' := Option.some.inj e_
  clear e_ hcells
  obtain ⟨Ap, cp, rfl, _, _⟩ := hp.shape
  obtain ⟨Aq, cq, rfl, _, _⟩ := hq.shape
  have sl0 := hp
  have sl1 := hq
  have HLE := Lib.hid hl
  have hl8 : p.length ≤ 8 := hl.1
  have HZL : Hid ((zerosq p.length).length = p.length) := zerosq_len p.length
  clear hl hp hq
  go_enter Try.func14, Try.ntmps14
  go_upto_region 1 with (fail)
  have hsz0 := bb.size
  have sB := bb.size
  refine flowp 3 [Pd.eq (.slice (some ad) 2 cV), Pd.eq (.int .i64 ((2 : Nat) : Int)), Pd.eq (.bool (((2 : Nat) : Int) == 0))] (by kernel_rfl) ?ob1 ?done1
  case ob1 =>
    refine And.intro (ob_move rfl (wt_none rfl) (ev_far rfl rfl) (fun _ _ h => h)) ?_
    refine And.intro (ob_len rfl (wt_none rfl) (ev_dep (j := 0) (by kernel_rfl) rfl rfl) (fun _ _ hx => ⟨_, by rw [hx]; exact len_slice Try.underlying68 _ _ _ _, rfl⟩)) ?_
    refine And.intro (ob_bin rfl (wt_none rfl) (ev_dep (j := 1) (by kernel_rfl) rfl rfl) (ev_const _) (fun _ _ _ hx hy => ⟨.bool (((2 : Nat) : Int) == 0), by rw [hx, hy]; exact bin_eql_int _ _ _ _ _, rfl⟩)) ?_
    trivial
  case done1 =>
    refine fun w1 hb1 v0 h0 v1 h1 v2 h2 b hbf => ?_
    obtain rfl := h0; obtain rfl := h1; obtain rfl := h2
    simp only [Act.put, List.setIfInBounds_toArray, List.set_cons_zero, List.set_cons_succ] at hbf
    subst hbf
    replace bb := bb.trans (hb1.mono bb.size)
    have hsz1 := bb.size
    refine ops_done ?_
    go_wp2
    go_loopw [16] (fun v16 wr => ∃ m : Nat, m ≤ 2 ∧ (m < 2 ∨ p.length = q.length) ∧ Below w.heap.size w wr ∧ v16 = .int .i64 (m : Int)) (fun v16 _ => 2 - (intOf v16).toNat)
    case atStart => exact ⟨0, by omega, by omega, bb, rfl⟩
    case round =>
      obtain ⟨m, hm, hm2, hbw, rfl⟩ := hrel
      clear bb
      have bb := hbw
      clear hbw
      have hszr := bb.size
      by_cases hm3 : m < 2
      · obtain ⟨r, hr⟩ : ∃ r, r = if m = 0 then p else q := ⟨_, rfl⟩
        have HR := Lib.hid hr
        obtain ⟨Ar, cr, ecr, sr⟩ : ∃ Ar cr, w.cell? (ad.add m) = some (.slice Ar r.length cr) ∧ SlF .u64 4294967296 w (.slice Ar r.length cr) r := by
          rcases (by omega : m = 0 ∨ m = 1) with rfl | rfl
          · obtain rfl : r = p := hr
            exact ⟨_, _, ec0, sl0⟩
          · obtain rfl : r = q := hr
            exact ⟨_, _, ec1, sl1⟩
        have ecw := (bb.cell (World.block_lt_of_cell? w _ ecr)).trans ecr
        have heq : r.length = p.length ∨ (r.length ≠ p.length ∧ p.length ≠ q.length) := by
          rw [hr]
          split
          · exact .inl rfl
          · omega
        have hmr : r.length = p.length → (m + 1 < 2 ∨ p.length = q.length) := by
          rw [hr]
          split
          · omega
          · omega
        clear hr
        have sB := bb.size
        go_upto_region 5 with (fail)
        refine flowp 3 [Pd.eq (.pointer (some (ad.add m))), Pd.eq (.slice Ar r.length cr), Pd.eq (.slice Ar r.length cr)] (by kernel_rfl) ?ob2 ?done2
        case ob2 =>
          refine And.intro (ob_indexAddr rfl (wt_none rfl) (ev_far rfl rfl) (ev_far rfl rfl) (fun _ _ _ hx hy => ⟨_, by rw [hx, hy]; exact index1_any (k := m) Try.underlying68 (by kernel_rfl) ad (by omega) _, rfl⟩)) ?_
          refine And.intro (ob_load rfl (wt_none rfl) (ev_dep (j := 0) (by kernel_rfl) rfl rfl) (fun w2 hb => run_load1 Try.underlying22 rfl ((hb.cell (World.block_lt_of_cell? wr _ ecw)).trans ecw)) (fun _ _ => rfl)) ?_
          refine And.intro (ob_assign rfl (wt_none rfl) (ev_dep (j := 1) (by kernel_rfl) rfl rfl) (fun _ _ h => h)) ?_
          trivial
        case done2 =>
          refine fun w3 hb3 v0 h0 v1 h1 v2 h2 b hbf => ?_
          obtain rfl := h0; obtain rfl := h1; obtain rfl := h2
          simp only [Act.put, List.setIfInBounds_toArray, List.set_cons_zero, List.set_cons_succ] at hbf
          subst hbf
          replace bb := bb.trans (hb3.mono bb.size)
          have hsz3 := bb.size
          refine ops_done ?_
          clear ecw
          have ecw0 := (bb.cell (World.block_lt_of_cell? w _ ec0)).trans ec0
          by_cases hrl : r.length = p.length
          · have HNE : Hid ((((r.length : Nat) : Int) != ((p.length : Nat) : Int)) = false) := by show _ = _; rw [bne_eq_false_iff_eq]; omega
            have HM2 := Lib.hid (hmr hrl)
            clear heq hmr hrl
            have sB := bb.size
            go_upto_region 6 with (fail)
            refine flowp 7 [Pd.eq (.slice Ar r.length cr), Pd.eq (.int .i64 ((r.length : Nat) : Int)), Pd.eq (.slice (some ad) 2 cV), Pd.eq (.pointer (some (ad.add 0))), Pd.eq (.slice Ap p.length cp), Pd.eq (.int .i64 ((p.length : Nat) : Int)), Pd.eq (.bool false)] (by kernel_rfl) ?ob4 ?done4
            case ob4 =>
              refine And.intro (ob_move rfl (wt_none rfl) (ev_far rfl rfl) (fun _ _ h => h)) ?_
              refine And.intro (ob_len rfl (wt_none rfl) (ev_dep (j := 0) (by kernel_rfl) rfl rfl) (fun _ _ hx => ⟨_, by rw [hx]; exact len_slice Try.underlying22 _ _ _ _, rfl⟩)) ?_
              refine And.intro (ob_move rfl (wt_none rfl) (ev_far rfl rfl) (fun _ _ h => h)) ?_
              refine And.intro (ob_indexAddr rfl (wt_none rfl) (ev_dep (j := 2) (by kernel_rfl) rfl rfl) (ev_const _) (fun _ _ _ hx hy => ⟨_, by rw [hx, hy]; exact index1_any (k := 0) Try.underlying68 (by kernel_rfl) ad (by omega) _, rfl⟩)) ?_
              refine And.intro (ob_load rfl (wt_none rfl) (ev_dep (j := 3) (by kernel_rfl) rfl rfl) (fun w2 hb => run_load1 Try.underlying22 rfl ((hb.cell (World.block_lt_of_cell? w3 _ ecw0)).trans ecw0)) (fun _ _ => rfl)) ?_
              refine And.intro (ob_len rfl (wt_none rfl) (ev_dep (j := 4) (by kernel_rfl) rfl rfl) (fun _ _ hx => ⟨_, by rw [hx]; exact len_slice Try.underlying22 _ _ _ _, rfl⟩)) ?_
              refine And.intro (ob_bin rfl (wt_none rfl) (ev_dep (j := 1) (by kernel_rfl) rfl rfl) (ev_dep (j := 5) (by kernel_rfl) rfl rfl) (fun _ _ _ hx hy => ⟨.bool false, by rw [hx, hy, bin_neq_int, HNE.out], rfl⟩)) ?_
              trivial
            case done4 =>
              refine fun w5 hb5 v0 h0 v1 h1 v2 h2 v3 h3 v4 h4 v5 h5 v6 h6 b hbf => ?_
              obtain rfl := h0; obtain rfl := h1; obtain rfl := h2; obtain rfl := h3; obtain rfl := h4; obtain rfl := h5; obtain rfl := h6
              simp only [Act.put, List.setIfInBounds_toArray, List.set_cons_zero, List.set_cons_succ] at hbf
              subst hbf
              replace bb := bb.trans (hb5.mono bb.size)
              have hsz5 := bb.size
              refine ops_done ?_
              have hm2' := HM2.out
              go_wp2
              go_roundw
              case rel => exact ⟨m + 1, by omega, hm2', bb, by go_num⟩
              case measure => simp [intOf]; omega
          · have HNE : Hid ((((r.length : Nat) : Int) != ((p.length : Nat) : Int)) = true) := by show _ = _; rw [bne_iff_ne]; omega
            have hno : p.length ≠ q.length := by omega
            have sB := bb.size
            go_upto_region 6 with (fail)
            refine flowp 7 [Pd.eq (.slice Ar r.length cr), Pd.eq (.int .i64 ((r.length : Nat) : Int)), Pd.eq (.slice (some ad) 2 cV), Pd.eq (.pointer (some (ad.add 0))), Pd.eq (.slice Ap p.length cp), Pd.eq (.int .i64 ((p.length : Nat) : Int)), Pd.eq (.bool true)] (by kernel_rfl) ?ob3 ?done3
            case ob3 =>
              refine And.intro (ob_move rfl (wt_none rfl) (ev_far rfl rfl) (fun _ _ h => h)) ?_
              refine And.intro (ob_len rfl (wt_none rfl) (ev_dep (j := 0) (by kernel_rfl) rfl rfl) (fun _ _ hx => ⟨_, by rw [hx]; exact len_slice Try.underlying22 _ _ _ _, rfl⟩)) ?_
              refine And.intro (ob_move rfl (wt_none rfl) (ev_far rfl rfl) (fun _ _ h => h)) ?_
              refine And.intro (ob_indexAddr rfl (wt_none rfl) (ev_dep (j := 2) (by kernel_rfl) rfl rfl) (ev_const _) (fun _ _ _ hx hy => ⟨_, by rw [hx, hy]; exact index1_any (k := 0) Try.underlying68 (by kernel_rfl) ad (by omega) _, rfl⟩)) ?_
              refine And.intro (ob_load rfl (wt_none rfl) (ev_dep (j := 3) (by kernel_rfl) rfl rfl) (fun w2 hb => run_load1 Try.underlying22 rfl ((hb.cell (World.block_lt_of_cell? w3 _ ecw0)).trans ecw0)) (fun _ _ => rfl)) ?_
              refine And.intro (ob_len rfl (wt_none rfl) (ev_dep (j := 4) (by kernel_rfl) rfl rfl) (fun _ _ hx => ⟨_, by rw [hx]; exact len_slice Try.underlying22 _ _ _ _, rfl⟩)) ?_
              refine And.intro (ob_bin rfl (wt_none rfl) (ev_dep (j := 1) (by kernel_rfl) rfl rfl) (ev_dep (j := 5) (by kernel_rfl) rfl rfl) (fun _ _ _ hx hy => ⟨.bool true, by rw [hx, hy, bin_neq_int, HNE.out], rfl⟩)) ?_
              trivial
            case done3 =>
              refine fun w5 hb5 v0 h0 v1 h1 v2 h2 v3 h3 v4 h4 v5 h5 v6 h6 b hbf => ?_
              obtain rfl := h0; obtain rfl := h1; obtain rfl := h2; obtain rfl := h3; obtain rfl := h4; obtain rfl := h5; obtain rfl := h6
              simp only [Act.put, List.setIfInBounds_toArray, List.set_cons_zero, List.set_cons_succ] at hbf
              subst hbf
              replace bb := bb.trans (hb5.mono bb.size)
              have hsz5 := bb.size
              refine ops_done ?_
              go_wp2
              go_ret2
              exact .inr ⟨hno, rfl, bb⟩
      · obtain rfl : m = 2 := by omega
        have he : p.length = q.length := by omega
        have HE := Lib.hid he
        clear hm hm2 hm3 he
        have ecw := (bb.cell (World.block_lt_of_cell? w _ ec0)).trans ec0
        have hw1 := bb.size
        have sB := bb.size
        go_upto_region 9 with (fail)
        refine flowp 6 [Pd.eq (.slice (some ad) 2 cV), Pd.eq (.pointer (some (ad.add 0))), Pd.eq (.slice Ap p.length cp), Pd.eq (.int .i64 ((p.length : Nat) : Int)), pro p.length (zerosq p.length) wr.heap.size, pro p.length (zerosq p.length) wr.heap.size] (by kernel_rfl) ?ob5 ?done5
        case ob5 =>
          refine And.intro (ob_move rfl (wt_none rfl) (ev_far rfl rfl) (fun _ _ h => h)) ?_
          refine And.intro (ob_indexAddr rfl (wt_none rfl) (ev_dep (j := 0) (by kernel_rfl) rfl rfl) (ev_const _) (fun _ _ _ hx hy => ⟨_, by rw [hx, hy]; exact index1_any (k := 0) Try.underlying68 (by kernel_rfl) ad (by omega) _, rfl⟩)) ?_
          refine And.intro (ob_load rfl (wt_none rfl) (ev_dep (j := 1) (by kernel_rfl) rfl rfl) (fun w2 hb => run_load1 Try.underlying22 rfl ((hb.cell (World.block_lt_of_cell? wr _ ecw)).trans ecw)) (fun _ _ => rfl)) ?_
          refine And.intro (ob_len rfl (wt_none rfl) (ev_dep (j := 2) (by kernel_rfl) rfl rfl) (fun _ _ hx => ⟨_, by rw [hx]; exact len_slice Try.underlying22 _ _ _ _, rfl⟩)) ?_
          refine And.intro (ob_call1 rfl Try.func19 (by kernel_rfl) (wt_none rfl) (ev_dep (j := 3) (by kernel_rfl) rfl rfl) (fun w2 u0 hb h0 => by obtain rfl := h0; exact (noughts_any _ (p.length) _ rfl (by omega)).mono fun e w3 h => RetRo.pd h HZL.out hb.size)) ?_
          refine And.intro (ob_assign rfl (wt_none rfl) (ev_dep (j := 4) (by kernel_rfl) rfl rfl) (fun _ _ h => h)) ?_
          trivial
        case done5 =>
          refine fun w3 hb3 v0 h0 v1 h1 v2 h2 v3 h3 v4 h4 v5 h5 b hbf => ?_
          obtain rfl := h0; obtain rfl := h1; obtain rfl := h2; obtain rfl := h3
          obtain ⟨g, rfl, RN, hg⟩ := h4
          obtain ⟨g, rfl, RN, hg⟩ := h5
          simp only [Act.put, List.setIfInBounds_toArray, List.set_cons_zero, List.set_cons_succ] at hbf
          subst hbf
          replace bb := bb.trans (hb3.mono bb.size)
          have hsz3 := bb.size
          refine ops_done ?_
          clear ecw
          have hgw : w.heap.size ≤ g := by omega
          have RN0 : RowN w3 g p.length (accq p q 0) := RN
          clear RN
          go_wp2
          go_loopw [35] (fun v35 wr => ∃ m : Nat, m ≤ 2 ∧ RowN wr g p.length (accq p q m) ∧ Below w.heap.size w wr ∧ v35 = .int .i64 (m : Int)) (fun v35 _ => 2 - (intOf v35).toNat)
          case atStart => exact ⟨0, by omega, RN0, bb, rfl⟩
          case round =>
            obtain ⟨m, hm, hR, hbw, rfl⟩ := hrel
            clear RN0 bb hszr
            have RN := hR
            have bb := hbw
            clear hR hbw
            have hszr := bb.size
            have hgl := RN.lt
            by_cases hm3 : m < 2
            · obtain ⟨r, hr⟩ : ∃ r, r = if m = 0 then p else q := ⟨_, rfl⟩
              have HR := Lib.hid hr
              obtain ⟨Ar, cr, ecr, sr⟩ : ∃ Ar cr, w.cell? (ad.add m) = some (.slice Ar r.length cr) ∧ SlF .u64 4294967296 w (.slice Ar r.length cr) r := by
                rcases (by omega : m = 0 ∨ m = 1) with rfl | rfl
                · obtain rfl : r = p := hr
                  exact ⟨_, _, ec0, sl0⟩
                · obtain rfl : r = q := hr
                  exact ⟨_, _, ec1, sl1⟩
              have ecw := (bb.cell (World.block_lt_of_cell? w _ ecr)).trans ecr
              have lr : ∀ x ∈ r, lenQ x 1 := by
                rw [hr]
                split
                · exact HLE.out.2.1
                · exact HLE.out.2.2
              have la : ∀ x ∈ accq p q m, lenQ x 1 := by
                rcases (by omega : m = 0 ∨ m = 1) with rfl | rfl
                · exact fun x hx => lenQ_01 (.inl (zerosq_mem hx))
                · exact HLE.out.2.1
              have HAL : Hid ((accq p q m).length = p.length) := accq_len m (.inr HE.out)
              have HAS : Hid (addq (accq p q m) r = accq p q (m + 1)) := accq_step hm3 hr
              have HRL : Hid (r.length = p.length) := by
                show _ = _
                rw [hr]
                split
                · rfl
                · exact HE.out.symm
              clear hr
              have sB := bb.size
              go_upto_region 12 with (fail)
              refine flowp 3 [Pd.eq (.pointer (some (ad.add m))), Pd.eq (.slice Ar r.length cr), Pd.eq (.slice Ar r.length cr)] (by kernel_rfl) ?ob6 ?done6
              case ob6 =>
                refine And.intro (ob_indexAddr rfl (wt_none rfl) (ev_far rfl rfl) (ev_far rfl rfl) (fun _ _ _ hx hy => ⟨_, by rw [hx, hy]; exact index1_any (k := m) Try.underlying68 (by kernel_rfl) ad (by omega) _, rfl⟩)) ?_
                refine And.intro (ob_load rfl (wt_none rfl) (ev_dep (j := 0) (by kernel_rfl) rfl rfl) (fun w2 hb => run_load1 Try.underlying22 rfl ((hb.cell (World.block_lt_of_cell? wr _ ecw)).trans ecw)) (fun _ _ => rfl)) ?_
                refine And.intro (ob_assign rfl (wt_none rfl) (ev_dep (j := 1) (by kernel_rfl) rfl rfl) (fun _ _ h => h)) ?_
                trivial
              case done6 =>
                refine fun w5 hb5 v0 h0 v1 h1 v2 h2 b hbf => ?_
                obtain rfl := h0; obtain rfl := h1; obtain rfl := h2
                simp only [Act.put, List.setIfInBounds_toArray, List.set_cons_zero, List.set_cons_succ] at hbf
                subst hbf
                replace RN := RN.below hb5
                replace bb := bb.trans (hb5.mono bb.size)
                have hsz5 := bb.size
                refine ops_done ?_
                clear ecw
                have RN1 : RowN w5 g p.length ((addq (accq p q m) r).take 0 ++ (accq p q m).drop 0) := by rw [List.take_zero, List.drop_zero, List.nil_append]; exact RN
                clear RN
                have HAR : Hid ((addq (accq p q m) r).length = (accq p q m).length) := addq_len (by rw [HAL.out, HRL.out])
                go_wp2
                go_loopw [41] (fun v41 wr => ∃ k : Nat, k ≤ r.length ∧ RowN wr g p.length ((addq (accq p q m) r).take k ++ (accq p q m).drop k) ∧ Below w.heap.size w wr ∧ v41 = .int .i64 (k : Int)) (fun v41 _ => r.length - (intOf v41).toNat)
                case atStart => exact ⟨0, by omega, RN1, bb, rfl⟩
                case round =>
                  obtain ⟨k, hk, hR, hbw, rfl⟩ := hrel
                  clear RN1 bb hszr hgl
                  have RN := hR
                  have bb := hbw
                  clear hR hbw
                  have hszr := bb.size
                  have hgl := RN.lt
                  by_cases hlt2 : k < r.length
                  · have hlp : k < p.length := by have := HRL.out; omega
                    obtain ⟨x, hx⟩ : ∃ x, r[k]? = some x := ⟨_, List.getElem?_eq_getElem hlt2⟩
                    obtain ⟨s, hs⟩ : ∃ s, (accq p q m)[k]? = some s := ⟨_, List.getElem?_eq_getElem (by rw [HAL.out]; exact hlp)⟩
                    have lx : lenQ x 1 := lr x (List.mem_of_getElem? hx)
                    have ls : lenQ s 1 := la s (List.mem_of_getElem? hs)
                    have HX := Lib.hid hx
                    have HAT : Hid (((addq (accq p q m) r).take k ++ (accq p q m).drop k)[k]? = some s) := front_at hs HAR.out
                    have HSK : Hid ((addq (accq p q m) r)[k]? = some (s + x)) := zip_at hs hx
                    have HFS : Hid (((addq (accq p q m) r).take k ++ (accq p q m).drop k).set k (s + x) = (addq (accq p q m) r).take (k + 1) ++ (accq p q m).drop (k + 1)) := front_set HSK.out HAR.out
                    have HFL : Hid (k < ((addq (accq p q m) r).take k ++ (accq p q m).drop k).length) := by show _ < _; rw [front_len _ _ _ HAR.out, HAL.out]; exact hlp
                    have hne : r ≠ [] := List.length_pos_iff.1 (by omega)
                    obtain ⟨g1_, o1_, cp1_, hA1_, _, _, _⟩ := sr.place hne
                    injection hA1_ with e1_ _ e3_
                    subst e1_
                    subst e3_
                    clear hx hs
                    obtain ⟨ux, tx, hltx, zx0, zx1, zx2, zxs, zxd⟩ := (sr.below bb).at2 HX.out
                    obtain ⟨Ax, cx, rfl, _⟩ := id zxs
                    obtain ⟨Dx, ex, rfl, _⟩ := id zxd
                    have zx : IsQ wr (.agg #[.bool (ngB (x).num), .slice Ax (digs 4294967296 (x).num.natAbs).length cx, .slice Dx (digs 4294967296 (x).den).length ex]) (x) := ⟨_, _, rfl, zxs, zxd⟩
                    have sB := bb.size
                    go_upto_region 15 with (fail)
                    refine flowp 5 [Pd.eq (.int .i64 (k : Int)), Pd.eq (.pointer (some ⟨g1_, o1_ + k * 3, none⟩)), Pd.eq (.agg #[.bool (ngB (x).num), .slice Ax (digs 4294967296 (x).num.natAbs).length cx, .slice Dx (digs 4294967296 (x).den).length ex]), pn 34 #[.bool false, .slice none 0 0, .slice none 0 0] wr.heap.size, Pd.eq (.int .i64 (k : Int))] (by kernel_rfl) ?ob7 ?done7
                    case ob7 =>
                      refine And.intro (ob_move rfl (wt_none rfl) (ev_far rfl rfl) (fun _ _ h => h)) ?_
                      refine And.intro (ob_indexAddr rfl (wt_none rfl) (ev_far rfl rfl) (ev_far rfl rfl) (fun _ _ _ hx hy => ⟨_, by rw [hx, hy]; exact index3 (k := k) Try.underlying22 (by kernel_rfl) hltx _, rfl⟩)) ?_
                      refine And.intro (ob_load rfl (wt_none rfl) (ev_dep (j := 1) (by kernel_rfl) rfl rfl) (fun w2 hb => load3 Try.underlying34 rfl (by kernel_rfl) ((hb.cell (World.block_lt_of_cell? wr _ zx0)).trans zx0) ((hb.cell (World.block_lt_of_cell? wr _ zx1)).trans zx1) ((hb.cell (World.block_lt_of_cell? wr _ zx2)).trans zx2)) (fun _ _ => rfl)) ?_
                      refine And.intro (ob_alloc (z := .agg #[.bool false, .slice none 0 0, .slice none 0 0]) rfl rfl (fun _ => by kernel_rfl) (fun _ _ hB h => ⟨_, rfl, hB, h⟩)) ?_
                      refine And.intro (ob_assign rfl (wt_none rfl) (ev_dep (j := 0) (by kernel_rfl) rfl rfl) (fun _ _ h => h)) ?_
                      trivial
                    case done7 =>
                      refine fun w7 hb7 v0 h0 v1 h1 v2 h2 v3 h3 d3 v4 h4 b hbf => ?_
                      obtain rfl := h0; obtain rfl := h1; obtain rfl := h2; obtain rfl := h4
                      obtain ⟨g7_3, rfl, hg3, B3⟩ := h3
                      simp only [Act.put, List.setIfInBounds_toArray, List.set_cons_zero, List.set_cons_succ] at hbf
                      subst hbf
                      replace RN := RN.below hb7
                      replace zxs := zxs.below hb7
                      replace zxd := zxd.below hb7
                      replace bb := bb.trans (hb7.mono bb.size)
                      have hsz7 := bb.size
                      have BA10 := B3
                      have q2 := zxs
                      have d2 := zxd
                      refine ops_store (i := 5) rfl rfl rfl rfl rfl rfl (cells := [.bool (ngB (x).num), .slice Ax (digs 4294967296 (x).num.natAbs).length cx, .slice Dx (digs 4294967296 (x).den).length ex]) rfl BA10 rfl (by kernel_rfl) (one3 rfl rfl rfl) fun w8 hg8 BN8 => ?_
                      replace q2 := off q2 BA10 no_ints3 hg8
                      replace d2 := off d2 BA10 no_ints3 hg8
                      replace RN := RowN.offb RN BA10 no_ints3 hg8 (by omega)
                      replace bb := bb.trans ((Below.refl _ _).grown hg8 bb.size (fun g hg => by injection hg with hg; omega))
                      have hsz8 := bb.size
                      have Bx : Blk w8 (g7_3) _ _ := BN8
                      have kxs := q2
                      have kxd := d2
                      have kxz : IsZ w8 (.agg #[.bool (ngB (x).num), .slice Ax (digs 4294967296 (x).num.natAbs).length cx]) ((x).num) := ⟨_, rfl, kxs⟩
                      have kx : IsQ w8 (.agg #[.bool (ngB (x).num), .slice Ax (digs 4294967296 (x).num.natAbs).length cx, .slice Dx (digs 4294967296 (x).den).length ex]) (x) := ⟨_, _, rfl, kxs, kxd⟩
                      refine ops_done ?_
                      have hG9 := Bx.lt
                      have hne9 : g ≠ g7_3 := by omega
                      obtain ⟨ua, ta, hlta, za0, za1, za2, zas, zad⟩ := RN.at_ HAT.out
                      obtain ⟨Aa, ca, rfl, _⟩ := id zas
                      obtain ⟨Da, ea, rfl, _⟩ := id zad
                      have za : IsQ w8 (.agg #[.bool (ngB (s).num), .slice Aa (digs 4294967296 (s).num.natAbs).length ca, .slice Da (digs 4294967296 (s).den).length ea]) (s) := ⟨_, _, rfl, zas, zad⟩
                      have sB := bb.size
                      go_upto_region 16 with (fail)
                      refine flow 9 [Pd.eq (.slice (some ⟨g, 0, none⟩) p.length p.length), Pd.eq (.int .i64 (k : Int)), Pd.eq (.slice (some ⟨g, 0, none⟩) p.length p.length), Pd.eq (.int .i64 (k : Int)), Pd.eq (.pointer (some ⟨g, 0 + k * 3, none⟩)), Pd.eq (.agg #[.bool (ngB (s).num), .slice Aa (digs 4294967296 (s).num.natAbs).length ca, .slice Da (digs 4294967296 (s).den).length ea]), Pd.eq (.agg #[.bool (ngB (x).num), .slice Ax (digs 4294967296 (x).num.natAbs).length cx, .slice Dx (digs 4294967296 (x).den).length ex]), pq ((s + x)) w8.heap.size, Pd.eq (.pointer (some ⟨g, 0 + k * 3, none⟩))] (by kernel_rfl) (by kernel_rfl) ?ob8 ?done8
                      case ob8 =>
                        refine And.intro (ob_move rfl (wt_none rfl) (ev_far rfl rfl) (fun _ _ h => h)) ?_
                        refine And.intro (ob_move rfl (wt_none rfl) (ev_far rfl rfl) (fun _ _ h => h)) ?_
                        refine And.intro (ob_move rfl (wt_none rfl) (ev_far rfl rfl) (fun _ _ h => h)) ?_
                        refine And.intro (ob_move rfl (wt_none rfl) (ev_far rfl rfl) (fun _ _ h => h)) ?_
                        refine And.intro (ob_indexAddr rfl (wt_none rfl) (ev_dep (j := 2) (by kernel_rfl) rfl rfl) (ev_dep (j := 3) (by kernel_rfl) rfl rfl) (fun _ _ _ hx hy => ⟨_, by rw [hx, hy]; exact index3 (k := k) Try.underlying22 (by kernel_rfl) hlta _, rfl⟩)) ?_
                        refine And.intro (ob_load rfl (wt_none rfl) (ev_dep (j := 4) (by kernel_rfl) rfl rfl) (fun w2 hb => load3 Try.underlying34 rfl (by kernel_rfl) ((hb.cell (World.block_lt_of_cell? w8 _ za0)).trans za0) ((hb.cell (World.block_lt_of_cell? w8 _ za1)).trans za1) ((hb.cell (World.block_lt_of_cell? w8 _ za2)).trans za2)) (fun _ _ => rfl)) ?_
                        refine And.intro (ob_load rfl (wt_none rfl) (ev_far rfl rfl) (fun w2 hb => run_loadAll Try.underlying34 rfl (by kernel_rfl) (Bx.drew.below hb)) (fun _ _ => rfl)) ?_
                        refine And.intro (ob_call2 rfl Try.func17 (by kernel_rfl) (wt_none rfl) (ev_dep (j := 5) (by kernel_rfl) rfl rfl) (ev_dep (j := 6) (by kernel_rfl) rfl rfl) (fun w2 u0 u1 hb h0 h1 => by obtain rfl := h0; obtain rfl := h1; exact (add8_any _ s _ x _ (za.drew.below hb) (kx.drew.below hb) (ls.mono (by decide)) (lx.mono (by decide))).mono fun e w3 h => RetQ.pd h hb.size)) ?_
                        refine And.intro (ob_indexAddr rfl (wt_none rfl) (ev_dep (j := 0) (by kernel_rfl) rfl rfl) (ev_dep (j := 1) (by kernel_rfl) rfl rfl) (fun _ _ _ hx hy => ⟨_, by rw [hx, hy]; exact index3 (k := k) Try.underlying22 (by kernel_rfl) hlp _, rfl⟩)) ?_
                        trivial
                      case done8 =>
                        refine fun w9 hb9 v0 h0 v1 h1 v2 h2 v3 h3 v4 h4 v5 h5 v6 h6 v7 h7 v8 h8 b hbf => ?_
                        obtain rfl := h0; obtain rfl := h1; obtain rfl := h2; obtain rfl := h3; obtain rfl := h4; obtain rfl := h5; obtain rfl := h6; obtain rfl := h8
                        obtain ⟨q7, f7⟩ := h7
                        simp only [Act.put, List.setIfInBounds_toArray, List.set_cons_zero, List.set_cons_succ] at hbf
                        subst hbf
                        replace Bx := Bx.below hb9
                        replace kxs := kxs.below hb9
                        replace kxd := kxd.below hb9
                        replace kxz := kxz.below hb9
                        replace kx := kx.below hb9
                        replace RN := RN.below hb9
                        replace bb := bb.trans (hb9.mono bb.size)
                        have hsz9 := bb.size
                        have s_7 := sB
                        obtain ⟨u7, t7, rfl, q7, d7⟩ := q7
                        obtain ⟨A9, c9, rfl, _⟩ := id q7
                        obtain ⟨D9, e9, rfl, _⟩ := id d7
                        refine any_store_q (j := 9) (by kernel_rfl) rfl rfl rfl rfl (g := g) (i := k) (q := (s + x)) rfl rfl (by kernel_rfl) RN hlp q7 d7 fun w10 hg10 hP10 => ?_
                        replace kxs := RN.keep hg10 kxs
                        replace kxd := RN.keep hg10 kxd
                        replace kxz : IsZ w10 (.agg #[.bool (ngB (x).num), .slice Ax (digs 4294967296 (x).num.natAbs).length cx]) ((x).num) := ⟨_, rfl, kxs⟩
                        replace kx : IsQ w10 (.agg #[.bool (ngB (x).num), .slice Ax (digs 4294967296 (x).num.natAbs).length cx, .slice Dx (digs 4294967296 (x).den).length ex]) (x) := ⟨_, _, rfl, kxs, kxd⟩
                        replace Bx := Bx.grown hg10 (by omega)
                        replace bb := bb.trans ((Below.refl _ _).grown hg10 bb.size (fun g hg => by injection hg with hg; omega))
                        have hsz10 := bb.size
                        replace RN := hP10.2 HFL.out
                        clear hP10
                        refine any_done (by kernel_rfl) ?_
                        rw [HFS.out] at RN
                        have hsk : r.length - (k + 1) < r.length - k := by omega
                        go_wp2
                        go_roundw
                        case rel => exact ⟨k + 1, by omega, RN, bb, by go_num⟩
                        case measure => simp [intOf]; omega
                  · have HE2 : Hid ((addq (accq p q m) r).take k ++ (accq p q m).drop k = accq p q (m + 1)) := by
                      show _ = _
                      rw [List.take_of_length_le (by rw [HAR.out, HAL.out]; have := HRL.out; omega), List.drop_eq_nil_of_le (by rw [HAL.out]; have := HRL.out; omega), List.append_nil, HAS.out]
                    rw [HE2.out] at RN
                    go_wp2
                    refine ⟨⟨m + 1, by omega, RN, bb, by go_num⟩, ?_⟩
                    simp [intOf]; omega
            · obtain rfl : m = 2 := by omega
              have he := HE.out
              have HAL : Hid ((addq p q).length = p.length) := addq_len he
              have hS : SlF .u64 4294967296 wr (.slice (some ⟨g, 0, none⟩) p.length p.length) (addq p q) := RN.sl HAL.out (by omega)
              clear RN
              go_wp2
              go_ret2
              exact .inl ⟨he, _, rfl, by rw [if_pos rfl]; exact hS, bb⟩
theorem fvadd_ok (a0 : Value) (p q : List Rat) (w : World) (h0 : Two w a0 p q) (he : p.length = q.length) (hl : p.length ≤ 8 ∧ (∀ x ∈ p, lenQ x 1) ∧ ∀ x ∈ q, lenQ x 1) : Calls Try.prog 14 #[a0] w (RetQLE (addq p q) 0 w) :=
  (fvadd_both a0 p q w h0 hl).mono fun e w' h => by
    rcases h with ⟨_, h⟩ | ⟨h, _⟩
    · exact h
    · exact absurd he h
set_option maxHeartbeats 1600000 in
set_option maxRecDepth 100000 in
theorem works11_any (w : World) :
    Calls Try.prog 7 #[] w (RetV (.bool true) w) := by
  obtain ⟨D, hD⟩ : ∃ D, D = dotq [((1 : Int) : Rat), ((2 : Int) : Rat)] [((3 : Int) : Rat), ((4 : Int) : Rat)] := ⟨_, rfl⟩
  have HD := Lib.hid hD
  have HS : Hid (true = decide (D = ((11 : Int) : Rat))) := by show _ = _; rw [hD]; decide +kernel
  have HK : Hid ((1 : Int) = ((leadq [((0 : Int) : Rat), ((5 : Int) : Rat)] : Nat) : Int)) := by show _ = _; decide +kernel
  have l0 : lenQ ((0 : Int) : Rat) 1 := ⟨digs_len_le (k := 1) (by omega) (by decide +kernel), digs_len_le (k := 1) (by omega) (by decide +kernel)⟩
  have l1 : lenQ ((1 : Int) : Rat) 1 := ⟨digs_len_le (k := 1) (by omega) (by decide +kernel), digs_len_le (k := 1) (by omega) (by decide +kernel)⟩
  have l2 : lenQ ((2 : Int) : Rat) 1 := ⟨digs_len_le (k := 1) (by omega) (by decide +kernel), digs_len_le (k := 1) (by omega) (by decide +kernel)⟩
  have l3 : lenQ ((3 : Int) : Rat) 1 := ⟨digs_len_le (k := 1) (by omega) (by decide +kernel), digs_len_le (k := 1) (by omega) (by decide +kernel)⟩
  have l4 : lenQ ((4 : Int) : Rat) 1 := ⟨digs_len_le (k := 1) (by omega) (by decide +kernel), digs_len_le (k := 1) (by omega) (by decide +kernel)⟩
  have l5 : lenQ ((5 : Int) : Rat) 1 := ⟨digs_len_le (k := 1) (by omega) (by decide +kernel), digs_len_le (k := 1) (by omega) (by decide +kernel)⟩
  have l11 : lenQ ((11 : Int) : Rat) 1 := ⟨digs_len_le (k := 1) (by omega) (by decide +kernel), digs_len_le (k := 1) (by omega) (by decide +kernel)⟩
  have two_ : ∀ {a b : Rat}, lenQ a 1 → lenQ b 1 → ∀ x ∈ [a, b], lenQ x 3 := fun ha hb x hx => by rcases List.mem_cons.1 hx with rfl | hx; exact ha.mono (by omega); obtain rfl := List.mem_singleton.1 hx; exact hb.mono (by omega)
  have HL : Hid ([((1 : Int) : Rat), ((2 : Int) : Rat)].length ≤ 8 ∧ (∀ x ∈ [((1 : Int) : Rat), ((2 : Int) : Rat)], lenQ x 3) ∧ ∀ x ∈ [((3 : Int) : Rat), ((4 : Int) : Rat)], lenQ x 3) := ⟨by simp, two_ l1 l2, two_ l3 l4⟩
  have HR : Hid ([((0 : Int) : Rat), ((5 : Int) : Rat)].length ≤ 200 ∧ ∀ x ∈ [((0 : Int) : Rat), ((5 : Int) : Rat)], lenQ x 3) := ⟨by simp, two_ l0 l5⟩
  clear hD two_
  go_enter Try.func7, Try.ntmps7
  have bb : Below w.heap.size w w := Below.refl _ _
  have hsz0 := bb.size
  go_upto_region 1 with (fail)
  refine flowp 11 [pqn (((1 : Int) : Rat)), pqn (((2 : Int) : Rat)), psq [((1 : Int) : Rat), ((2 : Int) : Rat)], pqn (((3 : Int) : Rat)), pqn (((4 : Int) : Rat)), psq [((3 : Int) : Rat), ((4 : Int) : Rat)], pqe (D) 0, pqe (D) 0, pqn (D), Pd.eq (.int .i64 0), pn 34 #[.bool false, .slice none 0 0, .slice none 0 0] w.heap.size] (by kernel_rfl) ?ob1 ?done1
  case ob1 =>
    refine And.intro (ob_call1 rfl Try.func9 (by kernel_rfl) (wt_none rfl) (ev_const _) (fun w2 u0 hb h0 => by obtain rfl := h0; exact (of8_any 1 _ (by omega) (by omega)).mono fun e w3 h => RetQn.pd h.n)) ?_
    refine And.intro (ob_call1 rfl Try.func9 (by kernel_rfl) (wt_none rfl) (ev_const _) (fun w2 u0 hb h0 => by obtain rfl := h0; exact (of8_any 2 _ (by omega) (by omega)).mono fun e w3 h => RetQn.pd h.n)) ?_
    refine And.intro (ob_lit2 rfl (wt_none rfl) (ev_dep (j := 0) (by kernel_rfl) rfl rfl) (ev_dep (j := 1) (by kernel_rfl) rfl rfl) Try.underlying22 info_rat (fun _ _ h => h) (fun _ _ h => h) (fun _ _ h => h)) ?_
    refine And.intro (ob_call1 rfl Try.func9 (by kernel_rfl) (wt_none rfl) (ev_const _) (fun w2 u0 hb h0 => by obtain rfl := h0; exact (of8_any 3 _ (by omega) (by omega)).mono fun e w3 h => RetQn.pd h.n)) ?_
    refine And.intro (ob_call1 rfl Try.func9 (by kernel_rfl) (wt_none rfl) (ev_const _) (fun w2 u0 hb h0 => by obtain rfl := h0; exact (of8_any 4 _ (by omega) (by omega)).mono fun e w3 h => RetQn.pd h.n)) ?_
    refine And.intro (ob_lit2 rfl (wt_none rfl) (ev_dep (j := 3) (by kernel_rfl) rfl rfl) (ev_dep (j := 4) (by kernel_rfl) rfl rfl) Try.underlying22 info_rat (fun _ _ h => h) (fun _ _ h => h) (fun _ _ h => h)) ?_
    refine And.intro (ob_call2 rfl Try.func15 (by kernel_rfl) (wt_none rfl) (ev_dep (j := 2) (by kernel_rfl) rfl rfl) (ev_dep (j := 5) (by kernel_rfl) rfl rfl) (fun w2 u0 u1 hb h0 h1 => by exact (HD.out ▸ fdot_ok _ _ [((1 : Int) : Rat), ((2 : Int) : Rat)] [((3 : Int) : Rat), ((4 : Int) : Rat)] _ h0 h1 rfl HL.out).mono fun e w3 h => RetQE.pd h)) ?_
    refine And.intro (ob_move rfl (wt_none rfl) (ev_dep (j := 6) (by kernel_rfl) rfl rfl) (fun _ _ h => h)) ?_
    refine And.intro (ob_extract rfl (wt_none rfl) (ev_dep (j := 7) (by kernel_rfl) rfl rfl) (fun w2 u hu => by obtain ⟨v, rfl, q1⟩ := hu; exact ⟨v, rfl, q1⟩)) ?_
    refine And.intro (ob_extract rfl (wt_none rfl) (ev_dep (j := 7) (by kernel_rfl) rfl rfl) (fun w2 u hu => by obtain ⟨v, rfl, q1⟩ := hu; exact ⟨_, rfl, rfl⟩)) ?_
    refine And.intro (ob_alloc (z := .agg #[.bool false, .slice none 0 0, .slice none 0 0]) rfl rfl (fun _ => by kernel_rfl) (fun _ _ hB h => ⟨_, rfl, hB, h⟩)) ?_
    trivial
  case done1 =>
    refine fun w1 hb1 v0 h0 v1 h1 v2 h2 v3 h3 v4 h4 v5 h5 v6 h6 v7 h7 v8 h8 v9 h9 v10 h10 d10 b hbf => ?_
    obtain rfl := h9
    have q0 := h0
    have q1 := h1
    have q2 := h2
    have q3 := h3
    have q4 := h4
    have q5 := h5
    clear h6
    clear h7
    have q8 := h8
    obtain ⟨g1_10, rfl, hg10, B10⟩ := h10
    simp only [Act.put, List.setIfInBounds_toArray, List.set_cons_zero, List.set_cons_succ] at hbf
    subst hbf
    replace bb := bb.trans (hb1.mono bb.size)
    have hsz1 := bb.size
    have BA1 := B10
    obtain ⟨u8, t8, rfl, q8, d8⟩ := q8
    obtain ⟨Ad, cd, rfl, _⟩ := id q8
    obtain ⟨Dd, ed, rfl, _⟩ := id d8
    refine ops_store (i := 11) rfl rfl rfl rfl rfl rfl (cells := [.bool (ngB (D).num), .slice Ad (digs 4294967296 (D).num.natAbs).length cd, .slice Dd (digs 4294967296 (D).den).length ed]) rfl BA1 rfl (by kernel_rfl) (one3 rfl rfl rfl) fun w2 hg2 BN2 => ?_
    replace q8 := off q8 BA1 no_ints3 hg2
    replace d8 := off d8 BA1 no_ints3 hg2
    replace bb := bb.trans ((Below.refl _ _).grown hg2 bb.size (fun g hg => by injection hg with hg; omega))
    have hsz2 := bb.size
    have Bd : Blk w2 (g1_10) _ _ := BN2
    have kds := q8
    have kdd := d8
    have kdz : IsZ w2 (.agg #[.bool (ngB (D).num), .slice Ad (digs 4294967296 (D).num.natAbs).length cd]) ((D).num) := ⟨_, rfl, kds⟩
    have kd : IsQ w2 (.agg #[.bool (ngB (D).num), .slice Ad (digs 4294967296 (D).num.natAbs).length cd, .slice Dd (digs 4294967296 (D).den).length ed]) (D) := ⟨_, _, rfl, kds, kdd⟩
    refine ops_assign (i := 12) (.int .i64 0) rfl rfl rfl rfl rfl fun b hbf => ?_
    simp only [Act.put, List.setIfInBounds_toArray, List.set_cons_zero, List.set_cons_succ] at hbf
    subst hbf
    refine ops_done ?_
    go_upto_region 2 with (fail)
    refine flow 15 [Pd.eq (.int .i64 0), Pd.eq (.bool true), Pd.eq (.bool true), Pd.eq (.agg #[.bool (ngB (D).num), .slice Ad (digs 4294967296 (D).num.natAbs).length cd, .slice Dd (digs 4294967296 (D).den).length ed]), pqn (((11 : Int) : Rat)), Pd.eq (.bool true), Pd.eq (.bool true), Pd.eq (.bool true), pqn (((0 : Int) : Rat)), pqn (((5 : Int) : Rat)), psq [((0 : Int) : Rat), ((5 : Int) : Rat)], Pd.eq (.int .i64 1), Pd.eq (.bool true), Pd.eq (.bool true), Pd.eq (.bool true)] (by kernel_rfl) (by kernel_rfl) ?ob2 ?done2
    case ob2 =>
      refine And.intro (ob_move rfl (wt_none rfl) (ev_far rfl rfl) (fun _ _ h => h)) ?_
      refine And.intro (ob_bin rfl (wt_none rfl) (ev_dep (j := 0) (by kernel_rfl) rfl rfl) (ev_const _) (fun _ _ _ hx hy => ⟨.bool ((0 : Int) == 0), by rw [hx, hy]; exact bin_eql_int _ _ _ _ _, congrArg Value.bool (by decide)⟩)) ?_
      refine And.intro (ob_move rfl (wt_none rfl) (ev_dep (j := 1) (by kernel_rfl) rfl rfl) (fun _ _ h => h)) ?_
      refine And.intro (ob_load rfl (wt_dep (c := true) (b := true) (g := 2) rfl (by kernel_rfl) rfl rfl rfl (by exact fun _ _ h => h)) (ev_far rfl rfl) (fun w2 hb => run_loadAll Try.underlying34 rfl (by kernel_rfl) (Bd.drew.below hb)) (fun _ _ => rfl)) ?_
      refine And.intro (ob_call1 rfl Try.func9 (by kernel_rfl) (wt_dep (c := true) (b := true) (g := 2) rfl (by kernel_rfl) rfl rfl rfl (by exact fun _ _ h => h)) (ev_const _) (fun w2 u0 hb h0 => by obtain rfl := h0; exact (of8_any 11 _ (by omega) (by omega)).mono fun e w3 h => RetQn.pd h.n)) ?_
      refine And.intro (ob_call2 rfl Try.func8 (by kernel_rfl) (wt_dep (c := true) (b := true) (g := 2) rfl (by kernel_rfl) rfl rfl rfl (by exact fun _ _ h => h)) (ev_dep (j := 3) (by kernel_rfl) rfl rfl) (ev_dep (j := 4) (by kernel_rfl) rfl rfl) (fun w2 u0 u1 hb h0 h1 => by obtain rfl := h0; exact (same8_any _ _ D ((11 : Int) : Rat) true _ (kd.drew.below hb) h1 HS.out).mono fun e w3 h => RetV.pd h)) ?_
      refine And.intro (ob_pick (b := true) rfl (wt_none rfl) (ev_dep (j := 2) (by kernel_rfl) rfl rfl) (ev_dep (j := 5) (by kernel_rfl) rfl rfl) (fun _ _ h => h)) ?_
      refine And.intro (ob_move rfl (wt_none rfl) (ev_dep (j := 6) (by kernel_rfl) rfl rfl) (fun _ _ h => h)) ?_
      refine And.intro (ob_call1 rfl Try.func9 (by kernel_rfl) (wt_dep (c := true) (b := true) (g := 7) rfl (by kernel_rfl) rfl rfl rfl (by exact fun _ _ h => h)) (ev_const _) (fun w2 u0 hb h0 => by obtain rfl := h0; exact (of8_any 0 _ (by omega) (by omega)).mono fun e w3 h => RetQn.pd h.n)) ?_
      refine And.intro (ob_call1 rfl Try.func9 (by kernel_rfl) (wt_dep (c := true) (b := true) (g := 7) rfl (by kernel_rfl) rfl rfl rfl (by exact fun _ _ h => h)) (ev_const _) (fun w2 u0 hb h0 => by obtain rfl := h0; exact (of8_any 5 _ (by omega) (by omega)).mono fun e w3 h => RetQn.pd h.n)) ?_
      refine And.intro (ob_lit2 rfl (wt_dep (c := true) (b := true) (g := 7) rfl (by kernel_rfl) rfl rfl rfl (by exact fun _ _ h => h)) (ev_dep (j := 8) (by kernel_rfl) rfl rfl) (ev_dep (j := 9) (by kernel_rfl) rfl rfl) Try.underlying22 info_rat (fun _ _ h => h) (fun _ _ h => h) (fun _ _ h => h)) ?_
      refine And.intro (ob_call1 rfl Try.func10 (by kernel_rfl) (wt_dep (c := true) (b := true) (g := 7) rfl (by kernel_rfl) rfl rfl rfl (by exact fun _ _ h => h)) (ev_dep (j := 10) (by kernel_rfl) rfl rfl) (fun w2 u0 hb h0 => by exact (flead_any _ [((0 : Int) : Rat), ((5 : Int) : Rat)] 1 _ h0 HR.out HK.out).mono fun e w3 h => RetV.pd h)) ?_
      refine And.intro (ob_bin rfl (wt_dep (c := true) (b := true) (g := 7) rfl (by kernel_rfl) rfl rfl rfl (by exact fun _ _ h => h)) (ev_dep (j := 11) (by kernel_rfl) rfl rfl) (ev_const _) (fun _ _ _ hx hy => ⟨.bool ((1 : Int) == 1), by rw [hx, hy]; exact bin_eql_int _ _ _ _ _, congrArg Value.bool (by decide)⟩)) ?_
      refine And.intro (ob_pick (b := true) rfl (wt_none rfl) (ev_dep (j := 7) (by kernel_rfl) rfl rfl) (ev_dep (j := 12) (by kernel_rfl) rfl rfl) (fun _ _ h => h)) ?_
      refine And.intro (ob_assign rfl (wt_none rfl) (ev_dep (j := 13) (by kernel_rfl) rfl rfl) (fun _ _ h => h)) ?_
      trivial
    case done2 =>
      refine fun w3 hb3 v0 h0 v1 h1 v2 h2 v3 h3 v4 h4 v5 h5 v6 h6 v7 h7 v8 h8 v9 h9 v10 h10 v11 h11 v12 h12 v13 h13 v14 h14 b hbf => ?_
      obtain rfl := h0; obtain rfl := h1; obtain rfl := h2; obtain rfl := h3; obtain rfl := h5; obtain rfl := h6; obtain rfl := h7; obtain rfl := h11; obtain rfl := h12; obtain rfl := h13; obtain rfl := h14
      have q4 := h4
      have q8 := h8
      have q9 := h9
      have q10 := h10
      simp only [Act.put, List.setIfInBounds_toArray, List.set_cons_zero, List.set_cons_succ] at hbf
      subst hbf
      replace Bd := Bd.below hb3
      replace kds := kds.below hb3
      replace kdd := kdd.below hb3
      replace kdz := kdz.below hb3
      replace kd := kd.below hb3
      replace bb := bb.trans (hb3.mono bb.size)
      have hsz3 := bb.size
      refine any_done (by kernel_rfl) ?_
      go_wp2
      go_ret
      exact ⟨rfl, bb⟩
/-- Two slices of the same fractions, so many of one limb each: the program's, and the document's own. -/
def RetFewN (n : Nat) (w : World) (e : Ending) (w' : World) : Prop := ∃ V U qs, e = .returned (.tuple #[V, U]) ∧ SlF .u64 4294967296 w' V qs ∧ SlF .i64 10000 w' U qs ∧ qs.length = n ∧ (∀ q ∈ qs, lenQ q 1) ∧ Below w.heap.size w w' ∧ (∀ g, V.ownBlock = some g → w.heap.size ≤ g ∧ g < w'.heap.size) ∧ (∀ g, U.ownBlock = some g → w.heap.size ≤ g ∧ g < w'.heap.size)
/-- Limbs in new memory; a row in new memory, limbs and all. -/
def NewL (B : Nat) (ps : List Elt) : Prop := ∀ p ∈ ps, Fresh B p.2.1 ∧ Fresh B p.2.2
theorem NewL.nil (B : Nat) : NewL B [] := fun p hp => by cases hp
theorem NewL.snoc {B : Nat} {ps : List Elt} {p : Elt} (h : NewL B ps) (h1 : Fresh B p.2.1) (h2 : Fresh B p.2.2) : NewL B (ps ++ [p]) := fun a ha => by
  rcases List.mem_append.1 ha with ha | ha
  · exact h a ha
  · rw [List.mem_singleton.1 ha]; exact ⟨h1, h2⟩
def IsN (k : IntKind) (B : Nat) (w : World) (B0 : Nat) (v : Value) (r : List Rat) : Prop := ∃ ps : List Elt, ps.map (·.1) = r ∧ IsVF w v ps ∧ (∀ p ∈ ps, IsE k B w p ∧ Fresh B0 p.2.1 ∧ Fresh B0 p.2.2) ∧ ∀ g, v.ownBlock = some g → B0 ≤ g ∧ g < w.heap.size
theorem IsN.sl {k : IntKind} {B : Nat} {w : World} {B0 : Nat} {v : Value} {r : List Rat} (h : IsN k B w B0 v r) : SlF k B w v r := by
  obtain ⟨ps, h1, h2, h3, _⟩ := h
  exact ⟨ps, h1, h2, fun p hp => (h3 p hp).1⟩
theorem IsN.below {k : IntKind} {B : Nat} {w w' : World} {B0 : Nat} {v : Value} {r : List Rat} (h : IsN k B w B0 v r) (hb : Below w.heap.size w w') : IsN k B w' B0 v r := by
  obtain ⟨ps, h1, h2, h3, h4⟩ := h
  exact ⟨ps, h1, h2.below hb, fun p hp => ⟨(h3 p hp).1.below hb, (h3 p hp).2⟩, fun g hg => ⟨(h4 g hg).1, Nat.lt_of_lt_of_le (h4 g hg).2 hb.size⟩⟩
theorem IsN.mono {k : IntKind} {B : Nat} {w : World} {B0 B1 : Nat} {v : Value} {r : List Rat} (h : IsN k B w B0 v r) (hb : B1 ≤ B0) : IsN k B w B1 v r := by
  obtain ⟨ps, h1, h2, h3, h4⟩ := h
  exact ⟨ps, h1, h2, fun p hp => ⟨(h3 p hp).1, (h3 p hp).2.1.mono hb, (h3 p hp).2.2.mono hb⟩, fun g hg => ⟨Nat.le_trans hb (h4 g hg).1, (h4 g hg).2⟩⟩
/-- Two rows of the same fractions, in new memory. -/
def RetFewG (n : Nat) (w : World) (e : Ending) (w' : World) : Prop := ∃ V U qs, e = .returned (.tuple #[V, U]) ∧ IsN .u64 4294967296 w' w.heap.size V qs ∧ IsN .i64 10000 w' w.heap.size U qs ∧ qs.length = n ∧ (∀ q ∈ qs, lenQ q 1) ∧ Below w.heap.size w w'
set_option maxHeartbeats 6400000 in
set_option maxRecDepth 100000 in
theorem few11_new (A0 : Option Addr) (n0 c0 M : Nat) (w : World) (h0 : ArgQs w (.slice A0 n0 c0)) (hM : M ≤ 8) :
    Calls Try.prog 12 #[.slice A0 n0 c0, .int .i64 (M : Int)] w (RetFewG (min n0 M) w) := by
  obtain ⟨A0_, n0_, c0_, e_, hn0, hc0, hel⟩ := h0
  injection e_ with e1_ e2_ e3_
  subst e1_
  subst e2_
  subst e3_
  have HEL := Lib.hid hel
  clear hel
  unfold maxLen at hc0
  have bb : Below w.heap.size w w := Below.refl _ _
  go_enter Try.func12, Try.ntmps12
  go_wp2
  go_loopw [6, 7, 8] (fun v4 v5 v6 wr => ∃ (k : Nat) (ps rs : List Elt), k ≤ M ∧ k ≤ n0 ∧ Hid (ps.length = k) ∧ Hid (rs.map (·.1) = ps.map (·.1)) ∧ Hid (∀ p ∈ ps, lenQ p.1 1) ∧ TwoRows w wr v4 v5 ps rs ∧ NewL w.heap.size ps ∧ NewL w.heap.size rs ∧ v6 = .int .i64 (k : Int)) (fun _ _ v6 _ => M - (intOf v6).toNat)
  case atStart =>
    have r0 := rowF_lit0 34 w w.heap.size (Nat.le_refl _)
    have r1 := rowF_lit0 60 (w.alloc (.cells #[] 34)) w.heap.size (by simp)
    have r0' := r0.below (below_alloc (Nat.le_refl _) (.cells #[] 60))
    refine ⟨0, [], [], by omega, by omega, rfl, rfl, (by show ∀ p ∈ _, _; intro p hp; cases hp), ⟨r0', ?_, ⟨FarF.nil _ _ _ _, FarF.nil _ _ _ _⟩, ⟨FarF.nil _ _ _ _, FarF.nil _ _ _ _⟩, ?_, (below_alloc (Nat.le_refl _) _).alloc (by simp) _⟩, NewL.nil _, NewL.nil _, rfl⟩
    · simpa using r1
    · intro g h1 h2
      simp [Value.ownBlock] at h1 h2
      omega
  case round =>
    obtain ⟨k, ps, rs, hk8, hkn, HPL, HRP, HLQ, hTR, hNP, hNR, rfl⟩ := hrel
    obtain ⟨u4, hu4⟩ : ∃ u4, u4 = u6 := ⟨_, rfl⟩
    obtain ⟨u5, hu5⟩ : ∃ u5, u5 = u7 := ⟨_, rfl⟩
    subst hu4
    subst hu5
    have bb' := hTR.2.2.2.2.2
    clear bb
    have bb := bb'
    clear bb'
    by_cases hlt : k < n0 ∧ k < M
    · obtain ⟨hlt1, hlt2⟩ := hlt
      obtain ⟨ad, b, ue, te, l, m, hA0, e0, e1, e2, hu, lu, ht, lt⟩ := HEL.out k hlt1
      subst hA0
      obtain ⟨Ae, ce, rfl, _⟩ := id hu
      obtain ⟨De, ee, rfl, _⟩ := id ht
      replace e0 := (bb.cell (World.block_lt_of_cell? w _ e0)).trans e0
      replace e1 := (bb.cell (World.block_lt_of_cell? w _ e1)).trans e1
      replace e2 := (bb.cell (World.block_lt_of_cell? w _ e2)).trans e2
      replace hu := hu.below bb
      replace ht := ht.below bb
      obtain ⟨q, hq⟩ : ∃ q, q = cleanQ b l m 1 := ⟨_, rfl⟩
      have lq : lenQ q 1 := by rw [hq]; exact cleanQ_len _ _ _ (by omega)
      have HQ := Lib.hid hq.symm
      clear hq
      have bl : Below wr.heap.size wr wr := Below.refl _ _
      have hszr := bb.size
      go_upto_region 5 with (fail)
      refine flowp 6 [Pd.eq (.slice (some ad) n0 c0), Pd.eq (.int .i64 (k : Int)), Pd.eq (.pointer (some (ad.add (k * 3)))), Pd.eq (.agg #[.bool b, .slice Ae l.length ce, .slice De m.length ee]), pq (q) wr.heap.size, pn 34 #[.bool false, .slice none 0 0, .slice none 0 0] wr.heap.size] (by kernel_rfl) ?ob1 ?done1
      case ob1 =>
        refine And.intro (ob_move rfl (wt_none rfl) (ev_far rfl rfl) (fun _ _ h => h)) ?_
        refine And.intro (ob_move rfl (wt_none rfl) (ev_far rfl rfl) (fun _ _ h => h)) ?_
        refine And.intro (ob_indexAddr rfl (wt_none rfl) (ev_dep (j := 0) (by kernel_rfl) rfl rfl) (ev_dep (j := 1) (by kernel_rfl) rfl rfl) (fun _ _ _ hx hy => ⟨_, by rw [hx, hy]; exact index3_any Try.underlying22 (by kernel_rfl) ad hlt1 _, rfl⟩)) ?_
        refine And.intro (ob_load rfl (wt_none rfl) (ev_dep (j := 2) (by kernel_rfl) rfl rfl) (fun w2 hb => load3_any Try.underlying34 rfl (by kernel_rfl) ((hb.cell (World.block_lt_of_cell? wr _ e0)).trans e0) ((hb.cell (World.block_lt_of_cell? wr _ e1)).trans e1) ((hb.cell (World.block_lt_of_cell? wr _ e2)).trans e2)) (fun _ _ => rfl)) ?_
        refine And.intro (ob_call2 rfl Try.func13 (by kernel_rfl) (wt_none rfl) (ev_dep (j := 3) (by kernel_rfl) rfl rfl) (ev_const _) (fun w2 u0 u1 hb h0 h1 => by obtain rfl := h0; obtain rfl := h1; exact (HQ.out ▸ qclean_any b _ _ l m 1 1 _ rfl (hu.below hb) lu (ht.below hb) lt (by omega) (by omega)).mono fun e w3 h => RetQ.pd h hb.size)) ?_
        refine And.intro (ob_alloc (z := .agg #[.bool false, .slice none 0 0, .slice none 0 0]) rfl rfl (fun _ => by kernel_rfl) (fun _ _ hB h => ⟨_, rfl, hB, h⟩)) ?_
        trivial
      case done1 =>
        refine fun w2 hb2 v0 h0 v1 h1 v2 h2 v3 h3 v4 h4 v5 h5 d5 b hbf => ?_
        obtain rfl := h0; obtain rfl := h1; obtain rfl := h2; obtain rfl := h3
        obtain ⟨q4, f4⟩ := h4
        obtain ⟨g1_5, rfl, hg5, B5⟩ := h5
        simp only [Act.put, List.setIfInBounds_toArray, List.set_cons_zero, List.set_cons_succ] at hbf
        subst hbf
        replace bb := bb.trans (hb2.mono bb.size)
        have hsz2 := bb.size
        replace bl := bl.trans (hb2.mono bl.size)
        have BA9 := B5
        obtain ⟨u4, t4, rfl, q4, d4⟩ := q4
        obtain ⟨A7, c7, rfl, _⟩ := id q4
        obtain ⟨D7, e7, rfl, _⟩ := id d4
        refine ops_store (i := 6) rfl rfl rfl rfl rfl rfl (cells := [.bool (ngB (q).num), .slice A7 (digs 4294967296 (q).num.natAbs).length c7, .slice D7 (digs 4294967296 (q).den).length e7]) rfl BA9 rfl (by kernel_rfl) (one3 rfl rfl rfl) fun w3 hg3 BN3 => ?_
        replace q4 := off q4 BA9 no_ints3 hg3
        replace d4 := off d4 BA9 no_ints3 hg3
        replace bb := bb.trans ((Below.refl _ _).grown hg3 bb.size (fun g hg => by injection hg with hg; omega))
        have hsz3 := bb.size
        have B7 : Blk w3 (g1_5) _ _ := BN3
        have k7s := q4
        have k7d := d4
        have k7z : IsZ w3 (.agg #[.bool (ngB (q).num), .slice A7 (digs 4294967296 (q).num.natAbs).length c7]) ((q).num) := ⟨_, rfl, k7s⟩
        have k7 : IsQ w3 (.agg #[.bool (ngB (q).num), .slice A7 (digs 4294967296 (q).num.natAbs).length c7, .slice D7 (digs 4294967296 (q).den).length e7]) (q) := ⟨_, _, rfl, k7s, k7d⟩
        have hq_ := bl.size
        replace bl := bl.trans ((Below.refl _ _).grown hg3 bl.size (fun g hg => by injection hg with hg; omega))
        clear hq_
        refine ops_done ?_
        have g1 := (f4 _ _ _ rfl).1
        have g2 := (f4 _ _ _ rfl).2
        have under4 := hTR.1.under
        have under5 := hTR.2.1.under
        have far4 : Far u4 (.slice A7 (digs 4294967296 (q).num.natAbs).length c7) ∧ Far u4 (.slice D7 (digs 4294967296 (q).den).length e7) := ⟨g1.far under4, g2.far under4⟩
        have far5 : Far u5 (.slice A7 (digs 4294967296 (q).num.natAbs).length c7) ∧ Far u5 (.slice D7 (digs 4294967296 (q).den).length e7) := ⟨g1.far under5, g2.far under5⟩
        have hT2 := hTR.below bl
        have HT2 := Lib.hid hT2
        have hr4 : RowF 34 w3 w.heap.size u4 ps := hT2.1
        have hszT : w.heap.size ≤ w3.heap.size := hT2.2.2.2.2.2.size
        have hne4 : u4.ownBlock ≠ some g1_5 := fun e => by have := under4 _ e; omega
        obtain ⟨x70, x71, x72, _, _, _⟩ := three B7
        obtain ⟨P1, hP1⟩ : ∃ P1 : Elt, P1 = (q, .slice A7 (digs 4294967296 (q).num.natAbs).length c7, .slice D7 (digs 4294967296 (q).den).length e7) := ⟨_, rfl⟩
        have HP1 := Lib.hid hP1
        have k7d_ : IsE .u64 4294967296 w3 (q, .slice A7 (digs 4294967296 (q).num.natAbs).length c7, .slice D7 (digs 4294967296 (q).den).length e7) := ⟨k7s, k7d⟩
        have lq3 : lenQ q 30000 := ⟨Nat.le_trans lq.1 (by decide), Nat.le_trans lq.2 (by decide)⟩
        have HL8 : Hid (ps.length ≤ 1000000000 ∧ rs.length ≤ 1000000000) := by
          have h1 := HPL.out
          have h2 := congrArg List.length HRP.out
          rw [List.length_map, List.length_map] at h2
          exact ⟨by omega, by omega⟩
        clear hT2 hTR e0 e1 e2 hu ht lu lt hP1
        obtain ⟨cA0, cA1, cA2⟩ := new_cells w3 34 (.bool (ngB (q).num)) (.slice A7 (digs 4294967296 (q).num.natAbs).length c7) (.slice D7 (digs 4294967296 (q).den).length e7)
        have bA := below_alloc (w := w3) (Nat.le_refl _) (.cells #[.bool (ngB (q).num), .slice A7 (digs 4294967296 (q).num.natAbs).length c7, .slice D7 (digs 4294967296 (q).den).length e7] 34)
        obtain ⟨wA, hwA⟩ : ∃ wA, wA = w3.alloc (.cells #[.bool (ngB (q).num), .slice A7 (digs 4294967296 (q).num.natAbs).length c7, .slice D7 (digs 4294967296 (q).den).length e7] 34) := ⟨_, rfl⟩
        have HWA := Lib.hid hwA
        rw [← hwA] at cA0 cA1 cA2 bA
        replace bA := bA.drew
        have rA := hr4.below bA
        have eA := k7d_.below bA
        have tA := HT2.out.below bA
        have BA_ := B7.below bA
        have hszA : w.heap.size ≤ wA.drew.heap.size := tA.2.2.2.2.2.size
        have TA := Lib.hid tA
        clear tA
        subst hwA
        obtain ⟨xA0, xA1, xA2, _, _, _⟩ := three BA_
        go_upto_region 6 with (fail)
        go_region_law (first
          | (refine step_append_q rfl (.tmp 28) (.tmp 30) rfl Try.underlying22 info_rat (v := u4) (p := (q, .slice A7 (digs 4294967296 (q).num.natAbs).length c7, .slice D7 (digs 4294967296 (q).den).length e7)) (ps := ps) (by rfl) (by exact rA) (ad := ⟨w3.heap.size, 0, none⟩) (c := 1) (by rfl) (by exact cA0) (by exact cA1) (by exact cA2) rfl rfl HL8.out.1 (by exact hszA) ?_; intro v5 w5 row5 bb5 HK5; have T5 := Lib.hid (TA.out.one row5 HK5.out bb5 eA far4 far5); have s5 := (HK5.out.1 _ _ _ eA.1 far4.1).1; have d5 := (HK5.out.1 _ _ _ eA.2 far4.2).1; have B5_ := BA_.other HK5.out.2.1 hne4; obtain ⟨x50, x51, x52, _, _, _⟩ := three B5_)
          | (go_simp; go_at_call 24; refine (qoff_any _ q _ ⟨_, _, rfl, (by exact s5), (by exact d5)⟩ lq3).mono ?_; rintro e w6 ⟨v6, rfl, k6, f6, b6⟩; have T6 := Lib.hid (T5.out.below b6); have row6 := T6.out.2.1; obtain ⟨u6, t6, rfl, q6, d6⟩ := k6; obtain ⟨A6, c6, rfl, _⟩ := id q6; obtain ⟨D6, e6, rfl, _⟩ := id d6; have hsz6 : w.heap.size ≤ w6.heap.size := T6.out.2.2.2.2.2.size; obtain ⟨cC0, cC1, cC2⟩ := new_cells w6 60 (.bool (ngB (q).num)) (.slice A6 (digs 10000 (q).num.natAbs).length c6) (.slice D6 (digs 10000 (q).den).length e6); have rC := row6.below (below_alloc (Nat.le_refl _) (.cells #[.bool (ngB (q).num), .slice A6 (digs 10000 (q).num.natAbs).length c6, .slice D6 (digs 10000 (q).den).length e6] 60)); have hszC := Nat.le_trans hsz6 (below_alloc (w := w6) (Nat.le_refl _) (.cells #[.bool (ngB (q).num), .slice A6 (digs 10000 (q).num.natAbs).length c6, .slice D6 (digs 10000 (q).den).length e6] 60)).size)
          | (refine step_append_q rfl (.tmp 32) (.tmp 35) rfl Try.underlying39 info_q (v := u5) (p := (q, .slice A6 (digs 10000 (q).num.natAbs).length c6, .slice D6 (digs 10000 (q).den).length e6)) (ps := rs) (by rfl) (by exact rC) (ad := ⟨w6.heap.size, 0, none⟩) (c := 1) (by rfl) (by exact cC0) (by exact cC1) (by exact cC2) rfl rfl HL8.out.2 (by exact hszC) ?_; intro v7 w7 row7 bb7 HK7))
        all_goals
          have ba6 := below_alloc (w := w6) (Nat.le_refl _) (.cells #[.bool (ngB (q).num), .slice A6 (digs 10000 (q).num.natAbs).length c6, .slice D6 (digs 10000 (q).den).length e6] 60)
          have TC := T6.out.below ba6
          have EC : IsE .i64 10000 (w6.alloc (.cells #[.bool (ngB (q).num), .slice A6 (digs 10000 (q).num.natAbs).length c6, .slice D6 (digs 10000 (q).den).length e6] 60)) (q, .slice A6 (digs 10000 (q).num.natAbs).length c6, .slice D6 (digs 10000 (q).den).length e6) := ⟨q6.below ba6, d6.below ba6⟩
          have j1 := (f6 _ _ _ rfl).1
          have j2 := (f6 _ _ _ rfl).2
          have n4 := T5.out.1.under
          have n5 := T5.out.2.1.under
          have T7 := TC.two row7 HK7.out bb7 EC ⟨j1.far n4, j2.far n4⟩ ⟨j1.far n5, j2.far n5⟩
          have NP7 := hNP.snoc (p := (q, .slice A7 (digs 4294967296 (q).num.natAbs).length c7, .slice D7 (digs 4294967296 (q).den).length e7)) (g1.mono hszr) (g2.mono hszr)
          have hs5 : w.heap.size ≤ w5.heap.size := T5.out.2.2.2.2.2.size
          have NR7 := hNR.snoc (p := (q, .slice A6 (digs 10000 (q).num.natAbs).length c6, .slice D6 (digs 10000 (q).den).length e6)) (j1.mono hs5) (j2.mono hs5)
          have HPL7 : Hid ((ps ++ [((q, .slice A7 (digs 4294967296 (q).num.natAbs).length c7, .slice D7 (digs 4294967296 (q).den).length e7) : Elt)]).length = k + 1) := by show _ = _; rw [List.length_append, HPL.out]; rfl
          have HRP7 : Hid ((rs ++ [((q, .slice A6 (digs 10000 (q).num.natAbs).length c6, .slice D6 (digs 10000 (q).den).length e6) : Elt)]).map (·.1) = (ps ++ [((q, .slice A7 (digs 4294967296 (q).num.natAbs).length c7, .slice D7 (digs 4294967296 (q).den).length e7) : Elt)]).map (·.1)) := by show _ = _; rw [List.map_append, List.map_append, HRP.out]; rfl
          have HLQ7 : Hid (∀ p ∈ ps ++ [((q, .slice A7 (digs 4294967296 (q).num.natAbs).length c7, .slice D7 (digs 4294967296 (q).den).length e7) : Elt)], lenQ p.1 1) := fun p hp => by
            rcases List.mem_append.1 hp with hp | hp
            · exact HLQ.out p hp
            · rw [List.mem_singleton.1 hp]; exact lq
          have hme : M - (k + 1) < M - k := by omega
          go_wp2
          go_roundw
          case rel => exact ⟨k + 1, _, _, by omega, by omega, HPL7, HRP7, HLQ7, T7, NP7, NR7, rfl⟩
          case measure => exact hme
    · have hV0 := fun g h => And.intro (hTR.1.base_le g h) (hTR.1.under g h)
      have hU0 := fun g h => And.intro (hTR.2.1.base_le g h) (hTR.2.1.under g h)
      have HEND : Hid (IsN .u64 4294967296 wr w.heap.size u4 (ps.map (·.1)) ∧ IsN .i64 10000 wr w.heap.size u5 (ps.map (·.1)) ∧ (ps.map (·.1)).length = min n0 M ∧ (∀ q ∈ ps.map (·.1), lenQ q 1)) := by
        show _ ∧ _ ∧ _ ∧ _
        refine ⟨⟨ps, rfl, hTR.1.isVF, fun p hp => ⟨(hTR.2.2.1.1 p hp).1, hNP p hp⟩, fun g hg => ⟨hTR.1.base_le g hg, hTR.1.under g hg⟩⟩, ⟨rs, HRP.out, hTR.2.1.isVF, fun p hp => ⟨(hTR.2.2.2.1.2 p hp).1, hNR p hp⟩, fun g hg => ⟨hTR.2.1.base_le g hg, hTR.2.1.under g hg⟩⟩, by rw [List.length_map, HPL.out]; omega, fun x hx => ?_⟩
        obtain ⟨p, hp, rfl⟩ := List.mem_map.1 hx
        exact HLQ.out p hp
      clear hTR HRP HLQ HPL hNP hNR hV0 hU0
      have hx : ¬ k < n0 ∨ (k < n0 ∧ ¬ k < M) := by omega
      rcases hx with hx | ⟨hx1, hx2⟩
      all_goals
        go_wp2
        go_ret2
        exact ⟨_, _, _, rfl, HEND.out.1, HEND.out.2.1, HEND.out.2.2.1, HEND.out.2.2.2, bb⟩
theorem few11_any (A0 : Option Addr) (n0 c0 M : Nat) (w : World) (h0 : ArgQs w (.slice A0 n0 c0)) (hM : M ≤ 8) : Calls Try.prog 12 #[.slice A0 n0 c0, .int .i64 (M : Int)] w (RetFewN (min n0 M) w) :=
  (few11_new A0 n0 c0 M w h0 hM).mono fun e w' h => by
    obtain ⟨V, U, qs, h1, h2, h3, h4, h5, h6⟩ := h
    obtain ⟨_, _, _, _, hV⟩ := id h2
    obtain ⟨_, _, _, _, hU⟩ := id h3
    exact ⟨V, U, qs, h1, h2.sl, h3.sl, h4, h5, h6, hV, hU⟩
end Go.Proofs.Ytodpjmbclmlieaa.rat
