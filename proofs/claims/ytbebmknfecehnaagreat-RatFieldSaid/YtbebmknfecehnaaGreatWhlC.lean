/- Package whole: difference, Mul. Condition: as each says. -/
import Derived.Test.YtbebmknfecehnaaGreatWhlB
namespace Go.Proofs.YtbebmknfecehnaaGreat.whl
open Go.RowKit Go.Proofs.YtbebmknfecehnaaGreat.num Go.Proofs.YtbebmknfecehnaaGreat.mem Go.Proofs.YtbebmknfecehnaaGreat.nat Go.Proofs.YtbebmknfecehnaaGreat.txt Go.Proofs.YtbebmknfecehnaaGreat.str Go.Proofs.YtbebmknfecehnaaGreat.flow
set_option linter.unusedVariables false

set_option maxHeartbeats 800000 in
theorem diff_any (v u : Value) (x y : Nat) (z : Int) (w : World) (h : IsS w .u64 v (digs 4294967296 x)) (h' : IsS w .u64 u (digs 4294967296 y)) (hl : (digs 4294967296 x).length ≤ 1000000) (hl' : (digs 4294967296 y).length ≤ 1000000) (hz : z = (x : Int) - (y : Int)) :
    Calls Tryz.prog 74 #[v, u] w (RetZ z w) := by
  have H0 := h.below (below_alloc (Nat.le_refl _) (.cells #[.bool false, .slice none 0 0] 25))
  have H0' := h'.below (below_alloc (Nat.le_refl _) (.cells #[.bool false, .slice none 0 0] 25))
  rcases Nat.lt_or_ge x y with hxy | hxy
  · have HZ : Hid (z = sg true (y - x)) := by show _ = _; rw [hz, sg_true]; omega
    have HA : Hid (z.natAbs = y - x) := by show _ = _; omega
    clear hz
    go_enter Tryz.func74, Tryz.ntmps74
    go_wp2_with fail
    refine (sub_less _ _ x y _ H0 H0' hxy).mono ?_
    rintro e w1 ⟨v1, rfl, k1, f1, b1⟩
    obtain ⟨A1, C1, rfl, _⟩ := id k1
    go_wp2_with fail
    refine (sub_ok _ _ y x _ (H0'.below b1) (H0.below b1) hl' (by omega) (y - x) rfl).mono ?_
    rintro e w2 ⟨v2, rfl, k2, f2, b2⟩
    obtain ⟨A2, C2, rfl, _⟩ := id k2
    go_wp2_with fail
    refine (signed_any true _ (y - x) _ k2).mono ?_
    rintro e w3 ⟨rfl, b3⟩
    have B2 := (((Blk.new w 25 #[.bool false, .slice none 0 0]).below b1).below b2).below b3
    obtain ⟨c0, c1, g0, g1⟩ := B2.two
    have bb1 := (below_alloc (Nat.le_refl w.heap.size) (.cells #[.bool false, .slice none 0 0] 25)).trans (b1.mono (by simp))
    have bb2 := bb1.trans (b2.mono bb1.size)
    have bb3 := bb2.trans (b3.mono bb2.size)
    have hs := b1.size
    go_wp2
    exact bodyPost_ret (v := .agg #[.bool (ngB (sg true (y - x))), .slice A2 (digs 4294967296 (y - x)).length C2]) (by simp [results, Tryz.results74, go_sem, c0, c1]) rfl (endZ bb3 (Nat.le_refl _) (Nat.lt_of_lt_of_le (by simp) hs) (by rw [HA.out]; exact k2.below b3) f2 (by rw [HZ.out]))
  · have HZ : Hid (z = sg false (x - y)) := by show _ = _; rw [hz, sg_false]; omega
    have HA : Hid (z.natAbs = x - y) := by show _ = _; omega
    clear hz
    go_enter Tryz.func74, Tryz.ntmps74
    go_wp2_with fail
    refine (sub_ok _ _ x y _ H0 H0' hl hxy (x - y) rfl).mono ?_
    rintro e w2 ⟨v2, rfl, k2, f2, b2⟩
    obtain ⟨A2, C2, rfl, _⟩ := id k2
    go_wp2_with fail
    refine (signed_any false _ (x - y) _ k2).mono ?_
    rintro e w3 ⟨rfl, b3⟩
    have B2 := ((Blk.new w 25 #[.bool false, .slice none 0 0]).below b2).below b3
    obtain ⟨c0, c1, g0, g1⟩ := B2.two
    have bb2 := (below_alloc (Nat.le_refl w.heap.size) (.cells #[.bool false, .slice none 0 0] 25)).trans (b2.mono (by simp))
    have bb3 := bb2.trans (b3.mono bb2.size)
    go_wp2
    exact bodyPost_ret (v := .agg #[.bool (ngB (sg false (x - y))), .slice A2 (digs 4294967296 (x - y)).length C2]) (by simp [results, Tryz.results74, go_sem, c0, c1]) rfl (endZ bb3 (Nat.le_refl _) (by simp) (by rw [HA.out]; exact k2.below b3) f2 (by rw [HZ.out]))

theorem sg_mul (x y : Int) : sg (!(ngB x == ngB y)) (x.natAbs * y.natAbs) = x * y := by
  have e : ∀ z : Int, z = sg (ngB z) z.natAbs := fun z => (sg_self z).symm
  conv => rhs; rw [e x, e y]
  cases ngB x <;> cases ngB y <;> simp [sg, Int.neg_mul, Int.mul_neg]
/-- Variables of the call's own: two parameters, and the result. -/
theorem vars3 (w : World) (t1 t2 t3 : TypeId) (x y z : Array Value) : ∃ wx, ((w.alloc (.cells x t1)).alloc (.cells y t2)).alloc (.cells z t3) = wx ∧ Below w.heap.size w wx ∧ Blk wx w.heap.size t1 x ∧ Blk wx (w.heap.size + 1) t2 y ∧ Blk wx (w.heap.size + 1 + 1) t3 z ∧ w.heap.size + 1 + 1 < wx.heap.size := by
  refine ⟨_, rfl, ((below_alloc (Nat.le_refl _) _).alloc (by simp) _).alloc (by simp; omega) _, ((Blk.new w t1 x).alloc _).alloc _, ?_, ?_, by simp⟩
  · have := (Blk.new (w.alloc (.cells x t1)) t2 y).alloc (.cells z t3)
    simpa using this
  · have := Blk.new ((w.alloc (.cells x t1)).alloc (.cells y t2)) t3 z
    simpa using this
set_option maxHeartbeats 1600000 in
set_option maxRecDepth 100000 in
theorem zmul_any (v u : Value) (x y z : Int) (w : World) (h : IsZ w v x) (h' : IsZ w u y) (hl : lenZ x ≤ 100000) (hl' : lenZ y ≤ 100000) (hz : z = x * y) :
    Calls Tryz.prog 40 #[v, u] w (RetZ z w) := by
  obtain ⟨ua, rfl, ha⟩ := h
  obtain ⟨ub, rfl, hb⟩ := h'
  obtain ⟨A, ca, rfl, _⟩ := id ha
  obtain ⟨B, cb, rfl, _⟩ := id hb
  unfold lenZ at hl hl'
  have HA : Hid (z.natAbs = x.natAbs * y.natAbs) := by show _ = _; rw [hz, Int.natAbs_mul]
  have HZ : Hid (sg (!(ngB x == ngB y)) (x.natAbs * y.natAbs) = z) := by show _ = _; rw [hz]; exact sg_mul x y
  clear hz
  go_enter Tryz.func40, Tryz.ntmps40
  go_wp2
  obtain ⟨wx, hwx, bb, B0, B1, B2, hsz⟩ := vars3 w 25 25 25 #[.bool (ngB x), .slice A (digs 4294967296 x.natAbs).length ca] #[.bool (ngB y), .slice B (digs 4294967296 y.natAbs).length cb] #[.bool false, .slice none 0 0]
  rw [hwx]
  have hax := ha.below bb
  have hbx := hb.below bb
  clear hwx
  refine flow 11 [Pd.eq (.pointer (some ⟨w.heap.size, 0, none⟩)), Pd.eq (.bool (ngB x)), Pd.eq (.pointer (some ⟨w.heap.size + 1, 0, none⟩)), Pd.eq (.bool (ngB y)), Pd.eq (.bool (!(ngB x == ngB y))), Pd.eq (.pointer (some ⟨w.heap.size, 1, none⟩)), Pd.eq (.slice A (digs 4294967296 x.natAbs).length ca), Pd.eq (.pointer (some ⟨w.heap.size + 1, 1, none⟩)), Pd.eq (.slice B (digs 4294967296 y.natAbs).length cb), ps .u64 (digs 4294967296 (x.natAbs * y.natAbs)) wx.heap.size, pz z wx.heap.size] (by kernel_rfl) (by kernel_rfl) ?ob ?done
  case ob =>
    refine And.intro (ob_fieldAddr rfl (wt_none rfl) (ev_far rfl rfl) (fun _ => by kernel_rfl) (fun _ => rfl)) ?_
    refine And.intro (ob_load rfl (wt_none rfl) (ev_dep (j := 0) (by kernel_rfl) rfl rfl) (fun w' hb => run_load1 Tryz.underlying4 rfl ((B0.drew.below hb).cell 0)) (fun _ _ => rfl)) ?_
    refine And.intro (ob_fieldAddr rfl (wt_none rfl) (ev_far rfl rfl) (fun _ => by kernel_rfl) (fun _ => rfl)) ?_
    refine And.intro (ob_load rfl (wt_none rfl) (ev_dep (j := 2) (by kernel_rfl) rfl rfl) (fun w' hb => run_load1 Tryz.underlying4 rfl ((B1.drew.below hb).cell 0)) (fun _ _ => rfl)) ?_
    refine And.intro (ob_bin rfl (wt_none rfl) (ev_dep (j := 1) (by kernel_rfl) rfl rfl) (ev_dep (j := 3) (by kernel_rfl) rfl rfl) (fun w' u u' hu hu' => ⟨_, by rw [hu, hu']; exact bin_neq_bool _ _ _ _ Tryz.underlying4 _, rfl⟩)) ?_
    refine And.intro (ob_fieldAddr rfl (wt_none rfl) (ev_far rfl rfl) (fun _ => by kernel_rfl) (fun _ => rfl)) ?_
    refine And.intro (ob_load rfl (wt_none rfl) (ev_dep (j := 5) (by kernel_rfl) rfl rfl) (fun w' hb => run_load1 Tryz.underlying23 rfl ((B0.drew.below hb).cell 1)) (fun _ _ => rfl)) ?_
    refine And.intro (ob_fieldAddr rfl (wt_none rfl) (ev_far rfl rfl) (fun _ => by kernel_rfl) (fun _ => rfl)) ?_
    refine And.intro (ob_load rfl (wt_none rfl) (ev_dep (j := 7) (by kernel_rfl) rfl rfl) (fun w' hb => run_load1 Tryz.underlying23 rfl ((B1.drew.below hb).cell 1)) (fun _ _ => rfl)) ?_
    refine And.intro (ob_call2 rfl Tryz.func75 (by kernel_rfl) (wt_none rfl) (ev_dep (j := 6) (by kernel_rfl) rfl rfl) (ev_dep (j := 8) (by kernel_rfl) rfl rfl) (fun w' u v hb h1 h2 => ?_)) ?_
    · obtain rfl := h1
      obtain rfl := h2
      exact (mul_any _ _ _ _ _ (hax.drew.below hb) (hbx.drew.below hb) hl hl' _ rfl).mono fun e w'' h => RetS.pd h hb.size
    refine And.intro (ob_call2 rfl Tryz.func72 (by kernel_rfl) (wt_none rfl) (ev_dep (j := 4) (by kernel_rfl) rfl rfl) (ev_dep (j := 9) (by kernel_rfl) rfl rfl) (fun w' u v hb h1 h2 => ?_)) ?_
    · obtain rfl := h1
      exact (signed_any _ v _ _ h2.1).mono fun e w'' h => ⟨_, h.1, ⟨isZ_mk (h2.1.below h.2) HA.out (by rw [HZ.out]), freshZ_mk h2.2⟩, h.2⟩
    trivial
  case done =>
    refine fun w' hb v0 h0 v1 h1 v2 h2 v3 h3 v4 h4 v5 h5 v6 h6 v7 h7 v8 h8 v9 h9 v10 h10 b hbf => ?_
    simp only [Act.put, List.setIfInBounds_toArray, List.set_cons_zero, List.set_cons_succ] at hbf
    subst hbf
    obtain rfl := h0; obtain rfl := h1; obtain rfl := h2; obtain rfl := h3; obtain rfl := h4; obtain rfl := h5; obtain rfl := h6; obtain rfl := h7; obtain rfl := h8
    obtain ⟨⟨u10, rfl, k10⟩, f10⟩ := h10
    obtain ⟨A10, c10, rfl, _⟩ := id k10
    have B3 := B2.below hb
    refine any_store (i := 11) (by kernel_rfl) rfl rfl rfl rfl rfl rfl (cells := [.bool (ngB z), .slice A10 (digs 4294967296 z.natAbs).length c10]) rfl B3 rfl (by kernel_rfl) (one2 rfl rfl) fun w2 hg2 B4 => ?_
    have k11 := off k10 B3 no_ints2 hg2
    have f11 := (f10 _ _ rfl).mono (show w.heap.size ≤ wx.heap.size from bb.size)
    have bb2 := ((bb.trans (hb.mono bb.size)).trans ((Below.refl _ _).grown hg2 (Nat.le_trans bb.size hb.size) (fun g hg => by injection hg with hg; omega)))
    obtain ⟨c0, c1, _, _⟩ := Blk.two B4
    refine any_done (by kernel_rfl) ?_
    go_wp2
    exact bodyPost_ret (v := .agg #[.bool (ngB z), .slice A10 (digs 4294967296 z.natAbs).length c10]) (by simp [results, Tryz.results40, go_sem, c0, c1]) rfl ⟨_, rfl, isZ_mk k11 rfl rfl, freshZ_mk f11, bb2⟩
end Go.Proofs.YtbebmknfecehnaaGreat.whl
