/- Package whole and the document's whole numbers: the calls. Condition: as each says. -/
import Derived.Test.YtbebmknfecehnaaGreatWhlC
import Derived.Deep.Cut
namespace Go.Proofs.YtbebmknfecehnaaGreat.whl
open Go.RowKit Go.Proofs.YtbebmknfecehnaaGreat.num Go.Proofs.YtbebmknfecehnaaGreat.mem Go.Proofs.YtbebmknfecehnaaGreat.nat Go.Proofs.YtbebmknfecehnaaGreat.txt Go.Proofs.YtbebmknfecehnaaGreat.str Go.Proofs.YtbebmknfecehnaaGreat.flow
set_option linter.unusedVariables false
theorem sg_neg (x : Int) : sg (!(ngB x)) x.natAbs = -x := by
  conv => rhs; rw [← sg_self x]
  cases ngB x <;> simp [sg]
theorem signed_pd (b : Bool) (u : Value) (x : Nat) (z : Int) (w : World) {B : Nat} (h : IsS w .u64 u (digs 4294967296 x)) (hf : Fresh B u) (hz : sg b x = z) : Calls Tryz.prog 72 #[.bool b, u] w (RetPd (pz z B) w) :=
  (signed_any b u x w h).mono fun e w' h' => ⟨_, h'.1, ⟨isZ_mk (h.below h'.2) (by rw [← hz, sg_abs]) (by rw [hz]), freshZ_mk hf⟩, h'.2⟩
theorem signed_pi (b : Bool) (u : Value) (x : Nat) (z : Int) (w : World) (h : IsS w .u64 u (digs 4294967296 x)) (hz : sg b x = z) : Calls Tryz.prog 72 #[.bool b, u] w (RetPd (pi z) w) :=
  (signed_any b u x w h).mono fun e w' h' => ⟨_, h'.1, isZ_mk (h.below h'.2) (by rw [← hz, sg_abs]) (by rw [hz]), h'.2⟩
theorem made_pd (b : Bool) (u : Value) (x : Nat) (z : Int) (w : World) (h : IsS w .i64 u (digs 10000 x)) (hz : sg b x = z) : Calls Tryz.prog 66 #[.bool b, u] w (RetPd (pr z) w) :=
  (rmade_any b u x w h).mono fun e w' h' => ⟨_, h'.1, isR_mk (h.below h'.2) (by rw [← hz, sg_abs]) (by rw [hz]), h'.2⟩
theorem vars2 (w : World) (t1 t2 : TypeId) (x y : Array Value) : ∃ wx, (w.alloc (.cells x t1)).alloc (.cells y t2) = wx ∧ Below w.heap.size w wx ∧ Blk wx w.heap.size t1 x ∧ Blk wx (w.heap.size + 1) t2 y ∧ w.heap.size + 1 < wx.heap.size := by
  refine ⟨_, rfl, (below_alloc (Nat.le_refl _) _).alloc (by simp) _, (Blk.new w t1 x).alloc _, ?_, by simp⟩
  have := Blk.new (w.alloc (.cells x t1)) t2 y
  simpa using this

set_option maxHeartbeats 1600000 in
set_option maxRecDepth 100000 in
theorem zneg_any (a0 : Value) (x : Int) (w : World) (h0 : IsZ w a0 x) (hl : lenZ x ≤ 100000) :
    Calls Tryz.prog 59 #[a0] w (RetZ (-x) w) := by
  obtain ⟨u0, rfl, s0⟩ := h0
  obtain ⟨A0, c0, rfl, _⟩ := id s0
  have HZ : Hid (sg (!(ngB x)) x.natAbs = -x) := by show _ = _; exact sg_neg x
  have HL : Hid ((digs 4294967296 x.natAbs).length ≤ 1000000) := by show _ ≤ _; unfold lenZ at hl; omega
  go_enter Tryz.func59, Tryz.ntmps59
  go_upto_region 1 with (fail)
  obtain ⟨wx, hwx, bb, B0, B1, hsz⟩ := vars2 w 25 25 #[.bool (ngB x), .slice A0 (digs 4294967296 (x).natAbs).length c0] #[.bool false, .slice none 0 0]
  rw [hwx]
  clear hwx
  have k0s := s0.below bb
  have k0 : IsZ wx (.agg #[.bool (ngB x), .slice A0 (digs 4294967296 (x).natAbs).length c0]) (x) := isZ_mk k0s rfl rfl
  have hszb := bb.size
  refine flowp 6 [Pd.eq (.pointer (some ⟨w.heap.size, 0, none⟩)), Pd.eq (.bool (ngB x)), Pd.eq (.bool (!(ngB x))), Pd.eq (.pointer (some ⟨w.heap.size, 1, none⟩)), Pd.eq (.slice A0 (digs 4294967296 (x).natAbs).length c0), pz (-x) wx.heap.size] (by kernel_rfl) ?ob1 ?done1
  case ob1 =>
    refine And.intro (ob_fieldAddr rfl (wt_none rfl) (ev_far rfl rfl) (fun _ => by kernel_rfl) (fun _ => rfl)) ?_
    refine And.intro (ob_load rfl (wt_none rfl) (ev_dep (j := 0) (by kernel_rfl) rfl rfl) (fun w2 hb => run_load1 Tryz.underlying4 rfl ((B0.below hb).cell 0)) (fun _ _ => rfl)) ?_
    refine And.intro (ob_un rfl (wt_none rfl) (ev_dep (j := 1) (by kernel_rfl) rfl rfl) (fun _ => un_not _ _) (fun _ => rfl)) ?_
    refine And.intro (ob_fieldAddr rfl (wt_none rfl) (ev_far rfl rfl) (fun _ => by kernel_rfl) (fun _ => rfl)) ?_
    refine And.intro (ob_load rfl (wt_none rfl) (ev_dep (j := 3) (by kernel_rfl) rfl rfl) (fun w2 hb => run_load1 Tryz.underlying23 rfl ((B0.below hb).cell 1)) (fun _ _ => rfl)) ?_
    refine And.intro (ob_call2 rfl Tryz.func57 (by kernel_rfl) (wt_none rfl) (ev_dep (j := 2) (by kernel_rfl) rfl rfl) (ev_dep (j := 4) (by kernel_rfl) rfl rfl) (fun w2 u0 u1 hb h0 h1 => by obtain rfl := h0; obtain rfl := h1; exact (made_any _ _ _ (-x) _ (k0s.below hb) HL.out HZ.out.symm).mono fun e w3 h => RetZ.pd h hb.size)) ?_
    trivial
  case done1 =>
    refine fun w1 hb1 v0 h0 v1 h1 v2 h2 v3 h3 v4 h4 v5 h5 b hbf => ?_
    obtain rfl := h0; obtain rfl := h1; obtain rfl := h2; obtain rfl := h3; obtain rfl := h4
    obtain ⟨q5, f5⟩ := h5
    simp only [Act.put, List.setIfInBounds_toArray, List.set_cons_zero, List.set_cons_succ] at hbf
    subst hbf
    obtain ⟨u5, rfl, q5⟩ := q5
    obtain ⟨A9, c9, rfl, _⟩ := id q5
    have B9 := B1.below hb1
    refine ops_store (i := 6) rfl rfl rfl rfl rfl rfl (cells := [.bool (ngB (-x)), .slice A9 (digs 4294967296 (-x).natAbs).length c9]) rfl B9 rfl (by kernel_rfl) (one2 rfl rfl) fun w9 hg9 BB9 => ?_
    have k9 := off q5 B9 no_ints2 hg9
    have f9 := (f5 _ _ rfl).mono (show w.heap.size ≤ wx.heap.size from bb.size)
    have bb9 := ((bb.trans (hb1.mono bb.size)).trans ((Below.refl _ _).grown hg9 (Nat.le_trans bb.size hb1.size) (fun g hg => by injection hg with hg; omega)))
    obtain ⟨c0, c1, _, _⟩ := Blk.two BB9
    refine ops_done ?_
    go_wp2
    exact bodyPost_ret (v := .agg #[.bool (ngB (-x)), .slice A9 (digs 4294967296 (-x).natAbs).length c9]) (by simp [results, Tryz.results59, go_sem, c0, c1]) rfl ⟨_, rfl, isZ_mk k9 rfl rfl, freshZ_mk f9, bb9⟩

set_option maxHeartbeats 1600000 in
set_option maxRecDepth 100000 in
theorem rneg_any (a0 : Value) (x : Int) (w : World) (h0 : IsR w a0 x)  :
    Calls Tryz.prog 60 #[a0] w (RetR (-x) w) := by
  obtain ⟨u0, rfl, s0⟩ := h0
  obtain ⟨A0, c0, rfl, _⟩ := id s0
  have HZ : Hid (sg (!(ngB x)) x.natAbs = -x) := by show _ = _; exact sg_neg x
  go_enter Tryz.func60, Tryz.ntmps60
  go_upto_region 1 with (fail)
  obtain ⟨wx, hwx, bb, B0, B1, hsz⟩ := vars2 w 32 32 #[.bool (ngB x), .slice A0 (digs 10000 (x).natAbs).length c0] #[.bool false, .slice none 0 0]
  rw [hwx]
  clear hwx
  have k0s := s0.below bb
  have k0 : IsR wx (.agg #[.bool (ngB x), .slice A0 (digs 10000 (x).natAbs).length c0]) (x) := isR_mk k0s rfl rfl
  have hszb := bb.size
  refine flowp 6 [Pd.eq (.pointer (some ⟨w.heap.size, 0, none⟩)), Pd.eq (.bool (ngB x)), Pd.eq (.bool (!(ngB x))), Pd.eq (.pointer (some ⟨w.heap.size, 1, none⟩)), Pd.eq (.slice A0 (digs 10000 (x).natAbs).length c0), pr (-x)] (by kernel_rfl) ?ob2 ?done2
  case ob2 =>
    refine And.intro (ob_fieldAddr rfl (wt_none rfl) (ev_far rfl rfl) (fun _ => by kernel_rfl) (fun _ => rfl)) ?_
    refine And.intro (ob_load rfl (wt_none rfl) (ev_dep (j := 0) (by kernel_rfl) rfl rfl) (fun w2 hb => run_load1 Tryz.underlying4 rfl ((B0.below hb).cell 0)) (fun _ _ => rfl)) ?_
    refine And.intro (ob_un rfl (wt_none rfl) (ev_dep (j := 1) (by kernel_rfl) rfl rfl) (fun _ => un_not _ _) (fun _ => rfl)) ?_
    refine And.intro (ob_fieldAddr rfl (wt_none rfl) (ev_far rfl rfl) (fun _ => by kernel_rfl) (fun _ => rfl)) ?_
    refine And.intro (ob_load rfl (wt_none rfl) (ev_dep (j := 3) (by kernel_rfl) rfl rfl) (fun w2 hb => run_load1 Tryz.underlying30 rfl ((B0.below hb).cell 1)) (fun _ _ => rfl)) ?_
    refine And.intro (ob_call2 rfl Tryz.func66 (by kernel_rfl) (wt_none rfl) (ev_dep (j := 2) (by kernel_rfl) rfl rfl) (ev_dep (j := 4) (by kernel_rfl) rfl rfl) (fun w2 u0 u1 hb h0 h1 => by obtain rfl := h0; obtain rfl := h1; exact made_pd _ _ _ (-x) _ (k0s.below hb) HZ.out)) ?_
    trivial
  case done2 =>
    refine fun w1 hb1 v0 h0 v1 h1 v2 h2 v3 h3 v4 h4 v5 h5 b hbf => ?_
    obtain rfl := h0; obtain rfl := h1; obtain rfl := h2; obtain rfl := h3; obtain rfl := h4
    have q5 := h5
    simp only [Act.put, List.setIfInBounds_toArray, List.set_cons_zero, List.set_cons_succ] at hbf
    subst hbf
    obtain ⟨u5, rfl, q5⟩ := q5
    obtain ⟨A9, c9, rfl, _⟩ := id q5
    have B9 := B1.below hb1
    refine ops_store (i := 6) rfl rfl rfl rfl rfl rfl (cells := [.bool (ngB (-x)), .slice A9 (digs 10000 (-x).natAbs).length c9]) rfl B9 rfl (by kernel_rfl) (one2 rfl rfl) fun w9 hg9 BB9 => ?_
    have k9 := off q5 B9 no_ints2 hg9
    have bb9 := ((bb.trans (hb1.mono bb.size)).trans ((Below.refl _ _).grown hg9 (Nat.le_trans bb.size hb1.size) (fun g hg => by injection hg with hg; omega)))
    obtain ⟨c0, c1, _, _⟩ := Blk.two BB9
    refine ops_done ?_
    go_wp2
    exact bodyPost_ret (v := .agg #[.bool (ngB (-x)), .slice A9 (digs 10000 (-x).natAbs).length c9]) (by simp [results, Tryz.results60, go_sem, c0, c1]) rfl ⟨_, rfl, isR_mk k9 rfl rfl, bb9⟩

set_option maxHeartbeats 1600000 in
set_option maxRecDepth 100000 in
theorem rof_any (a0 : Value) (x : Int) (w : World) (h0 : IsZ w a0 x) (hl : lenZ x ≤ 30000) :
    Calls Tryz.prog 32 #[a0] w (RetR x w) := by
  obtain ⟨u0, rfl, s0⟩ := h0
  obtain ⟨A0, c0, rfl, _⟩ := id s0
  have HL : Hid ((digs 4294967296 x.natAbs).length ≤ 100000) := by show _ ≤ _; unfold lenZ at hl; omega
  have HZ : Hid (sg (ngB x) x.natAbs = x) := by show _ = _; exact sg_self x
  go_enter Tryz.func32, Tryz.ntmps32
  go_upto_region 1 with (fail)
  obtain ⟨wx, hwx, bb, B0, B1, hsz⟩ := vars2 w 25 32 #[.bool (ngB x), .slice A0 (digs 4294967296 (x).natAbs).length c0] #[.bool false, .slice none 0 0]
  rw [hwx]
  clear hwx
  have k0s := s0.below bb
  have k0 : IsZ wx (.agg #[.bool (ngB x), .slice A0 (digs 4294967296 (x).natAbs).length c0]) (x) := isZ_mk k0s rfl rfl
  have hszb := bb.size
  refine flow 6 [Pd.eq (.pointer (some ⟨w.heap.size, 0, none⟩)), Pd.eq (.bool (ngB x)), Pd.eq (.pointer (some ⟨w.heap.size, 1, none⟩)), Pd.eq (.slice A0 (digs 4294967296 (x).natAbs).length c0), ps .i64 (digs 10000 x.natAbs) wx.heap.size, pr (x)] (by kernel_rfl) (by kernel_rfl) ?ob3 ?done3
  case ob3 =>
    refine And.intro (ob_fieldAddr rfl (wt_none rfl) (ev_far rfl rfl) (fun _ => by kernel_rfl) (fun _ => rfl)) ?_
    refine And.intro (ob_load rfl (wt_none rfl) (ev_dep (j := 0) (by kernel_rfl) rfl rfl) (fun w2 hb => run_load1 Tryz.underlying4 rfl ((B0.drew.below hb).cell 0)) (fun _ _ => rfl)) ?_
    refine And.intro (ob_fieldAddr rfl (wt_none rfl) (ev_far rfl rfl) (fun _ => by kernel_rfl) (fun _ => rfl)) ?_
    refine And.intro (ob_load rfl (wt_none rfl) (ev_dep (j := 2) (by kernel_rfl) rfl rfl) (fun w2 hb => run_load1 Tryz.underlying23 rfl ((B0.drew.below hb).cell 1)) (fun _ _ => rfl)) ?_
    refine And.intro (ob_call1 rfl Tryz.func34 (by kernel_rfl) (wt_none rfl) (ev_dep (j := 3) (by kernel_rfl) rfl rfl) (fun w2 u0 hb h0 => by obtain rfl := h0; exact (refOf_any _ _ _ (k0s.drew.below hb) HL.out).mono fun e w3 h => RetS.pd h hb.size)) ?_
    refine And.intro (ob_call2 rfl Tryz.func66 (by kernel_rfl) (wt_none rfl) (ev_dep (j := 1) (by kernel_rfl) rfl rfl) (ev_dep (j := 4) (by kernel_rfl) rfl rfl) (fun w2 u0 u1 hb h0 h1 => by obtain rfl := h0; exact made_pd _ _ _ (x) _ h1.1 HZ.out)) ?_
    trivial
  case done3 =>
    refine fun w1 hb1 v0 h0 v1 h1 v2 h2 v3 h3 v4 h4 v5 h5 b hbf => ?_
    obtain rfl := h0; obtain rfl := h1; obtain rfl := h2; obtain rfl := h3
    obtain ⟨q4, f4⟩ := h4
    have q5 := h5
    simp only [Act.put, List.setIfInBounds_toArray, List.set_cons_zero, List.set_cons_succ] at hbf
    subst hbf
    obtain ⟨u5, rfl, q5⟩ := q5
    obtain ⟨A9, c9, rfl, _⟩ := id q5
    have B9 := B1.below hb1
    refine any_store (i := 6) (by kernel_rfl) rfl rfl rfl rfl rfl rfl (cells := [.bool (ngB (x)), .slice A9 (digs 10000 (x).natAbs).length c9]) rfl B9 rfl (by kernel_rfl) (one2 rfl rfl) fun w9 hg9 BB9 => ?_
    have k9 := off q5 B9 no_ints2 hg9
    have bb9 := ((bb.trans (hb1.mono bb.size)).trans ((Below.refl _ _).grown hg9 (Nat.le_trans bb.size hb1.size) (fun g hg => by injection hg with hg; omega)))
    obtain ⟨c0, c1, _, _⟩ := Blk.two BB9
    refine any_done (by kernel_rfl) ?_
    go_wp2
    exact bodyPost_ret (v := .agg #[.bool (ngB (x)), .slice A9 (digs 10000 (x).natAbs).length c9]) (by simp [results, Tryz.results32, go_sem, c0, c1]) rfl ⟨_, rfl, isR_mk k9 rfl rfl, bb9⟩

set_option maxHeartbeats 1600000 in
set_option maxRecDepth 100000 in
theorem rback_any (a0 : Value) (x : Int) (w : World) (h0 : IsR w a0 x) (hl : lenZ x ≤ 30000) :
    Calls Tryz.prog 44 #[a0] w (RetZ x w) := by
  obtain ⟨u0, rfl, s0⟩ := h0
  obtain ⟨A0, c0, rfl, _⟩ := id s0
  have HL : Hid ((digs 4294967296 x.natAbs).length ≤ 100000) := by show _ ≤ _; unfold lenZ at hl; omega
  have HM : Hid ((digs 10000 x.natAbs).length ≤ 100000) := by show _ ≤ _; have := lenZ_dec x; omega
  go_enter Tryz.func44, Tryz.ntmps44
  go_upto_region 1 with (fail)
  obtain ⟨wx, hwx, bb, B0, B1, hsz⟩ := vars2 w 32 25 #[.bool (ngB x), .slice A0 (digs 10000 (x).natAbs).length c0] #[.bool false, .slice none 0 0]
  rw [hwx]
  clear hwx
  have k0s := s0.below bb
  have k0 : IsR wx (.agg #[.bool (ngB x), .slice A0 (digs 10000 (x).natAbs).length c0]) (x) := isR_mk k0s rfl rfl
  have hszb := bb.size
  refine flow 6 [Pd.eq (.pointer (some ⟨w.heap.size, 0, none⟩)), Pd.eq (.bool (ngB x)), Pd.eq (.pointer (some ⟨w.heap.size, 1, none⟩)), Pd.eq (.slice A0 (digs 10000 (x).natAbs).length c0), ps .u64 (digs 4294967296 x.natAbs) wx.heap.size, pz (x) wx.heap.size] (by kernel_rfl) (by kernel_rfl) ?ob4 ?done4
  case ob4 =>
    refine And.intro (ob_fieldAddr rfl (wt_none rfl) (ev_far rfl rfl) (fun _ => by kernel_rfl) (fun _ => rfl)) ?_
    refine And.intro (ob_load rfl (wt_none rfl) (ev_dep (j := 0) (by kernel_rfl) rfl rfl) (fun w2 hb => run_load1 Tryz.underlying4 rfl ((B0.drew.below hb).cell 0)) (fun _ _ => rfl)) ?_
    refine And.intro (ob_fieldAddr rfl (wt_none rfl) (ev_far rfl rfl) (fun _ => by kernel_rfl) (fun _ => rfl)) ?_
    refine And.intro (ob_load rfl (wt_none rfl) (ev_dep (j := 2) (by kernel_rfl) rfl rfl) (fun w2 hb => run_load1 Tryz.underlying30 rfl ((B0.drew.below hb).cell 1)) (fun _ _ => rfl)) ?_
    refine And.intro (ob_call1 rfl Tryz.func45 (by kernel_rfl) (wt_none rfl) (ev_dep (j := 3) (by kernel_rfl) rfl rfl) (fun w2 u0 hb h0 => by obtain rfl := h0; exact (refBack_any _ _ _ (k0s.drew.below hb) HM.out HL.out).mono fun e w3 h => RetS.pd h hb.size)) ?_
    refine And.intro (ob_build2 rfl (wt_none rfl) (ev_dep (j := 1) (by kernel_rfl) rfl rfl) (ev_dep (j := 4) (by kernel_rfl) rfl rfl) (fun w2 u v hu hv => by subst hu; obtain ⟨A7, c7, rfl, _⟩ := id hv.1; exact ⟨.agg #[.bool (ngB x), .slice A7 (digs 4294967296 x.natAbs).length c7], by kernel_rfl, ⟨⟨_, rfl, hv.1⟩, freshZ_mk hv.2⟩⟩)) ?_
    trivial
  case done4 =>
    refine fun w1 hb1 v0 h0 v1 h1 v2 h2 v3 h3 v4 h4 v5 h5 b hbf => ?_
    obtain rfl := h0; obtain rfl := h1; obtain rfl := h2; obtain rfl := h3
    obtain ⟨q4, f4⟩ := h4
    obtain ⟨q5, f5⟩ := h5
    simp only [Act.put, List.setIfInBounds_toArray, List.set_cons_zero, List.set_cons_succ] at hbf
    subst hbf
    obtain ⟨u5, rfl, q5⟩ := q5
    obtain ⟨A9, c9, rfl, _⟩ := id q5
    have B9 := B1.below hb1
    refine any_store (i := 6) (by kernel_rfl) rfl rfl rfl rfl rfl rfl (cells := [.bool (ngB (x)), .slice A9 (digs 4294967296 (x).natAbs).length c9]) rfl B9 rfl (by kernel_rfl) (one2 rfl rfl) fun w9 hg9 BB9 => ?_
    have k9 := off q5 B9 no_ints2 hg9
    have f9 := (f5 _ _ rfl).mono (show w.heap.size ≤ wx.heap.size from bb.size)
    have bb9 := ((bb.trans (hb1.mono bb.size)).trans ((Below.refl _ _).grown hg9 (Nat.le_trans bb.size hb1.size) (fun g hg => by injection hg with hg; omega)))
    obtain ⟨c0, c1, _, _⟩ := Blk.two BB9
    refine any_done (by kernel_rfl) ?_
    go_wp2
    exact bodyPost_ret (v := .agg #[.bool (ngB (x)), .slice A9 (digs 4294967296 (x).natAbs).length c9]) (by simp [results, Tryz.results44, go_sem, c0, c1]) rfl ⟨_, rfl, isZ_mk k9 rfl rfl, freshZ_mk f9, bb9⟩

set_option maxHeartbeats 1600000 in
set_option maxRecDepth 100000 in
theorem rmul_any (a0 : Value) (x : Int) (a1 : Value) (y : Int) (w : World) (h0 : IsR w a0 x) (h1 : IsR w a1 y) (hl : lenZ x ≤ 30000) (hl2 : lenZ y ≤ 30000) :
    Calls Tryz.prog 46 #[a0, a1] w (RetR (x * y) w) := by
  obtain ⟨u0, rfl, s0⟩ := h0
  obtain ⟨A0, c0, rfl, _⟩ := id s0
  obtain ⟨u1, rfl, s1⟩ := h1
  obtain ⟨A1, c1, rfl, _⟩ := id s1
  have HZ : Hid (sg (!(ngB x == ngB y)) (x.natAbs * y.natAbs) = x * y) := by show _ = _; exact sg_mul x y
  have HL : Hid ((digs 10000 x.natAbs).length ≤ 1000000) := by show _ ≤ _; have := lenZ_dec x; omega
  have HL2 : Hid ((digs 10000 y.natAbs).length ≤ 1000000) := by show _ ≤ _; have := lenZ_dec y; omega
  go_enter Tryz.func46, Tryz.ntmps46
  go_upto_region 1 with (fail)
  obtain ⟨wx, hwx, bb, B0, B1, B2, hsz⟩ := vars3 w 32 32 32 #[.bool (ngB x), .slice A0 (digs 10000 (x).natAbs).length c0] #[.bool (ngB y), .slice A1 (digs 10000 (y).natAbs).length c1] #[.bool false, .slice none 0 0]
  rw [hwx]
  clear hwx
  have k0s := s0.below bb
  have k0 : IsR wx (.agg #[.bool (ngB x), .slice A0 (digs 10000 (x).natAbs).length c0]) (x) := isR_mk k0s rfl rfl
  have k1s := s1.below bb
  have k1 : IsR wx (.agg #[.bool (ngB y), .slice A1 (digs 10000 (y).natAbs).length c1]) (y) := isR_mk k1s rfl rfl
  have hszb := bb.size
  refine flow 11 [Pd.eq (.pointer (some ⟨w.heap.size, 0, none⟩)), Pd.eq (.bool (ngB x)), Pd.eq (.pointer (some ⟨w.heap.size + 1, 0, none⟩)), Pd.eq (.bool (ngB y)), Pd.eq (.bool (!((ngB x) == (ngB y)))), Pd.eq (.pointer (some ⟨w.heap.size, 1, none⟩)), Pd.eq (.slice A0 (digs 10000 (x).natAbs).length c0), Pd.eq (.pointer (some ⟨w.heap.size + 1, 1, none⟩)), Pd.eq (.slice A1 (digs 10000 (y).natAbs).length c1), ps .i64 (digs 10000 (x.natAbs * y.natAbs)) wx.heap.size, pr (x * y)] (by kernel_rfl) (by kernel_rfl) ?ob5 ?done5
  case ob5 =>
    refine And.intro (ob_fieldAddr rfl (wt_none rfl) (ev_far rfl rfl) (fun _ => by kernel_rfl) (fun _ => rfl)) ?_
    refine And.intro (ob_load rfl (wt_none rfl) (ev_dep (j := 0) (by kernel_rfl) rfl rfl) (fun w2 hb => run_load1 Tryz.underlying4 rfl ((B0.drew.below hb).cell 0)) (fun _ _ => rfl)) ?_
    refine And.intro (ob_fieldAddr rfl (wt_none rfl) (ev_far rfl rfl) (fun _ => by kernel_rfl) (fun _ => rfl)) ?_
    refine And.intro (ob_load rfl (wt_none rfl) (ev_dep (j := 2) (by kernel_rfl) rfl rfl) (fun w2 hb => run_load1 Tryz.underlying4 rfl ((B1.drew.below hb).cell 0)) (fun _ _ => rfl)) ?_
    refine And.intro (ob_bin rfl (wt_none rfl) (ev_dep (j := 1) (by kernel_rfl) rfl rfl) (ev_dep (j := 3) (by kernel_rfl) rfl rfl) (fun _ _ _ hx hy => ⟨.bool (!((ngB x) == (ngB y))), by rw [hx, hy]; exact bin_neq_bool _ _ _ _ Tryz.underlying4 _, rfl⟩)) ?_
    refine And.intro (ob_fieldAddr rfl (wt_none rfl) (ev_far rfl rfl) (fun _ => by kernel_rfl) (fun _ => rfl)) ?_
    refine And.intro (ob_load rfl (wt_none rfl) (ev_dep (j := 5) (by kernel_rfl) rfl rfl) (fun w2 hb => run_load1 Tryz.underlying30 rfl ((B0.drew.below hb).cell 1)) (fun _ _ => rfl)) ?_
    refine And.intro (ob_fieldAddr rfl (wt_none rfl) (ev_far rfl rfl) (fun _ => by kernel_rfl) (fun _ => rfl)) ?_
    refine And.intro (ob_load rfl (wt_none rfl) (ev_dep (j := 7) (by kernel_rfl) rfl rfl) (fun w2 hb => run_load1 Tryz.underlying30 rfl ((B1.drew.below hb).cell 1)) (fun _ _ => rfl)) ?_
    refine And.intro (ob_call2 rfl Tryz.func48 (by kernel_rfl) (wt_none rfl) (ev_dep (j := 6) (by kernel_rfl) rfl rfl) (ev_dep (j := 8) (by kernel_rfl) rfl rfl) (fun w2 u0 u1 hb h0 h1 => by obtain rfl := h0; obtain rfl := h1; exact (refMul_any _ _ _ _ _ (k0s.drew.below hb) (k1s.drew.below hb) HL.out HL2.out).mono fun e w3 h => RetS.pd h hb.size)) ?_
    refine And.intro (ob_call2 rfl Tryz.func66 (by kernel_rfl) (wt_none rfl) (ev_dep (j := 4) (by kernel_rfl) rfl rfl) (ev_dep (j := 9) (by kernel_rfl) rfl rfl) (fun w2 u0 u1 hb h0 h1 => by obtain rfl := h0; exact made_pd _ _ _ (x * y) _ h1.1 HZ.out)) ?_
    trivial
  case done5 =>
    refine fun w1 hb1 v0 h0 v1 h1 v2 h2 v3 h3 v4 h4 v5 h5 v6 h6 v7 h7 v8 h8 v9 h9 v10 h10 b hbf => ?_
    obtain rfl := h0; obtain rfl := h1; obtain rfl := h2; obtain rfl := h3; obtain rfl := h4; obtain rfl := h5; obtain rfl := h6; obtain rfl := h7; obtain rfl := h8
    obtain ⟨q9, f9⟩ := h9
    have q10 := h10
    simp only [Act.put, List.setIfInBounds_toArray, List.set_cons_zero, List.set_cons_succ] at hbf
    subst hbf
    obtain ⟨u10, rfl, q10⟩ := q10
    obtain ⟨A9, c9, rfl, _⟩ := id q10
    have B9 := B2.below hb1
    refine any_store (i := 11) (by kernel_rfl) rfl rfl rfl rfl rfl rfl (cells := [.bool (ngB (x * y)), .slice A9 (digs 10000 (x * y).natAbs).length c9]) rfl B9 rfl (by kernel_rfl) (one2 rfl rfl) fun w9 hg9 BB9 => ?_
    have k9 := off q10 B9 no_ints2 hg9
    have bb9 := ((bb.trans (hb1.mono bb.size)).trans ((Below.refl _ _).grown hg9 (Nat.le_trans bb.size hb1.size) (fun g hg => by injection hg with hg; omega)))
    obtain ⟨c0, c1, _, _⟩ := Blk.two BB9
    refine any_done (by kernel_rfl) ?_
    go_wp2
    exact bodyPost_ret (v := .agg #[.bool (ngB (x * y)), .slice A9 (digs 10000 (x * y).natAbs).length c9]) (by simp [results, Tryz.results46, go_sem, c0, c1]) rfl ⟨_, rfl, isR_mk k9 rfl rfl, bb9⟩

set_option maxHeartbeats 1600000 in
set_option maxRecDepth 100000 in
theorem zadd_any (a0 : Value) (x : Int) (a1 : Value) (y : Int) (w : World) (h0 : IsZ w a0 x) (h1 : IsZ w a1 y) (hl : lenZ x ≤ 30000) (hl2 : lenZ y ≤ 30000) :
    Calls Tryz.prog 39 #[a0, a1] w (RetZ (x + y) w) := by
  have HL : Hid ((digs 4294967296 x.natAbs).length ≤ 30000) := hl
  have HL2 : Hid ((digs 4294967296 y.natAbs).length ≤ 30000) := hl2
  have HS : Hid ((digs 4294967296 (x.natAbs + y.natAbs)).length ≤ 1000000) := by show _ ≤ _; have := add_len x.natAbs y.natAbs; unfold lenZ at hl hl2; omega
  obtain ⟨u0, rfl, s0⟩ := h0
  obtain ⟨A0, c0, rfl, _⟩ := id s0
  obtain ⟨u1, rfl, s1⟩ := h1
  obtain ⟨A1, c1, rfl, _⟩ := id s1
  rcases hs0 : ngB x with _ | _ <;> rcases hs1 : ngB y with _ | _
  · have HZ : Hid (sg false (x.natAbs + y.natAbs) = x + y) := by show _ = _; have := ngB_false hs0; have := ngB_false hs1; rw [sg_false]; omega
    go_enter Tryz.func39, Tryz.ntmps39
    go_upto_region 1 with (fail)
    obtain ⟨wx, hwx, bb, B0, B1, B2, hsz⟩ := vars3 w 25 25 25 #[.bool false, .slice A0 (digs 4294967296 (x).natAbs).length c0] #[.bool false, .slice A1 (digs 4294967296 (y).natAbs).length c1] #[.bool false, .slice none 0 0]
    rw [hwx]
    clear hwx
    have k0s := s0.below bb
    have k0 : IsZ wx (.agg #[.bool false, .slice A0 (digs 4294967296 (x).natAbs).length c0]) (x) := isZ_mk k0s rfl hs0.symm
    have k1s := s1.below bb
    have k1 : IsZ wx (.agg #[.bool false, .slice A1 (digs 4294967296 (y).natAbs).length c1]) (y) := isZ_mk k1s rfl hs1.symm
    have hszb := bb.size
    refine flowp 6 [Pd.eq (.pointer (some ⟨w.heap.size, 0, none⟩)), Pd.eq (.bool false), Pd.eq (.pointer (some ⟨w.heap.size + 1, 0, none⟩)), Pd.eq (.bool false), Pd.eq (.bool true), Pd.eq (.bool true)] (by kernel_rfl) ?ob6 ?done6
    case ob6 =>
      refine And.intro (ob_fieldAddr rfl (wt_none rfl) (ev_far rfl rfl) (fun _ => by kernel_rfl) (fun _ => rfl)) ?_
      refine And.intro (ob_load rfl (wt_none rfl) (ev_dep (j := 0) (by kernel_rfl) rfl rfl) (fun w2 hb => run_load1 Tryz.underlying4 rfl ((B0.below hb).cell 0)) (fun _ _ => rfl)) ?_
      refine And.intro (ob_fieldAddr rfl (wt_none rfl) (ev_far rfl rfl) (fun _ => by kernel_rfl) (fun _ => rfl)) ?_
      refine And.intro (ob_load rfl (wt_none rfl) (ev_dep (j := 2) (by kernel_rfl) rfl rfl) (fun w2 hb => run_load1 Tryz.underlying4 rfl ((B1.below hb).cell 0)) (fun _ _ => rfl)) ?_
      refine And.intro (ob_bin rfl (wt_none rfl) (ev_dep (j := 1) (by kernel_rfl) rfl rfl) (ev_dep (j := 3) (by kernel_rfl) rfl rfl) (fun _ _ _ hx hy => ⟨.bool (false == false), by rw [hx, hy]; exact bin_eql_bool _ _ _ _ Tryz.underlying4 _, rfl⟩)) ?_
      refine And.intro (ob_assign rfl (wt_none rfl) (ev_dep (j := 4) (by kernel_rfl) rfl rfl) (fun _ _ h => h)) ?_
      trivial
    case done6 =>
      refine fun w1 hb1 v0 h0 v1 h1 v2 h2 v3 h3 v4 h4 v5 h5 b hbf => ?_
      obtain rfl := h0; obtain rfl := h1; obtain rfl := h2; obtain rfl := h3; obtain rfl := h4; obtain rfl := h5
      simp only [Act.put, List.setIfInBounds_toArray, List.set_cons_zero, List.set_cons_succ] at hbf
      subst hbf
      replace B0 := B0.below hb1
      replace B1 := B1.below hb1
      replace B2 := B2.below hb1
      replace k0s := k0s.below hb1
      replace k1s := k1s.below hb1
      replace k0 := k0.below hb1
      replace k1 := k1.below hb1
      replace bb := bb.trans (hb1.mono bb.size)
      have hszb := bb.size
      obtain ⟨x00, x01, y00, y01⟩ := Blk.two B0
      obtain ⟨x10, x11, y10, y11⟩ := Blk.two B1
      obtain ⟨x20, x21, y20, y21⟩ := Blk.two B2
      refine ops_done ?_
      go_upto_region 2 with (fail)
      refine flow 8 [Pd.eq (.pointer (some ⟨w.heap.size, 0, none⟩)), Pd.eq (.bool false), Pd.eq (.pointer (some ⟨w.heap.size, 1, none⟩)), Pd.eq (.slice A0 (digs 4294967296 (x).natAbs).length c0), Pd.eq (.pointer (some ⟨w.heap.size + 1, 1, none⟩)), Pd.eq (.slice A1 (digs 4294967296 (y).natAbs).length c1), ps .u64 (digs 4294967296 (x.natAbs + y.natAbs)) w1.heap.size, pz (x + y) w1.heap.size] (by kernel_rfl) (by kernel_rfl) ?ob7 ?done7
      case ob7 =>
        refine And.intro (ob_fieldAddr rfl (wt_none rfl) (ev_far rfl rfl) (fun _ => by kernel_rfl) (fun _ => rfl)) ?_
        refine And.intro (ob_load rfl (wt_none rfl) (ev_dep (j := 0) (by kernel_rfl) rfl rfl) (fun w2 hb => run_load1 Tryz.underlying4 rfl ((B0.drew.below hb).cell 0)) (fun _ _ => rfl)) ?_
        refine And.intro (ob_fieldAddr rfl (wt_none rfl) (ev_far rfl rfl) (fun _ => by kernel_rfl) (fun _ => rfl)) ?_
        refine And.intro (ob_load rfl (wt_none rfl) (ev_dep (j := 2) (by kernel_rfl) rfl rfl) (fun w2 hb => run_load1 Tryz.underlying23 rfl ((B0.drew.below hb).cell 1)) (fun _ _ => rfl)) ?_
        refine And.intro (ob_fieldAddr rfl (wt_none rfl) (ev_far rfl rfl) (fun _ => by kernel_rfl) (fun _ => rfl)) ?_
        refine And.intro (ob_load rfl (wt_none rfl) (ev_dep (j := 4) (by kernel_rfl) rfl rfl) (fun w2 hb => run_load1 Tryz.underlying23 rfl ((B1.drew.below hb).cell 1)) (fun _ _ => rfl)) ?_
        refine And.intro (ob_call2 rfl Tryz.func73 (by kernel_rfl) (wt_none rfl) (ev_dep (j := 3) (by kernel_rfl) rfl rfl) (ev_dep (j := 5) (by kernel_rfl) rfl rfl) (fun w2 u0 u1 hb h0 h1 => by obtain rfl := h0; obtain rfl := h1; exact (add_any _ _ _ _ _ (k0s.drew.below hb) (k1s.drew.below hb) _ rfl HS.out).mono fun e w3 h => RetS.pd h hb.size)) ?_
        refine And.intro (ob_call2 rfl Tryz.func72 (by kernel_rfl) (wt_none rfl) (ev_dep (j := 1) (by kernel_rfl) rfl rfl) (ev_dep (j := 6) (by kernel_rfl) rfl rfl) (fun w2 u0 u1 hb h0 h1 => by obtain rfl := h0; exact signed_pd _ _ _ (x + y) _ h1.1 h1.2 HZ.out)) ?_
        trivial
      case done7 =>
        refine fun w2 hb2 v0 h0 v1 h1 v2 h2 v3 h3 v4 h4 v5 h5 v6 h6 v7 h7 b hbf => ?_
        obtain rfl := h0; obtain rfl := h1; obtain rfl := h2; obtain rfl := h3; obtain rfl := h4; obtain rfl := h5
        obtain ⟨q6, f6⟩ := h6
        obtain ⟨q7, f7⟩ := h7
        simp only [Act.put, List.setIfInBounds_toArray, List.set_cons_zero, List.set_cons_succ] at hbf
        subst hbf
        obtain ⟨u7, rfl, q7⟩ := q7
        obtain ⟨A9, c9, rfl, _⟩ := id q7
        have B9 := B2.below hb2
        refine any_store (i := 8) (by kernel_rfl) rfl rfl rfl rfl rfl rfl (cells := [.bool (ngB (x + y)), .slice A9 (digs 4294967296 (x + y).natAbs).length c9]) rfl B9 rfl (by kernel_rfl) (one2 rfl rfl) fun w9 hg9 BB9 => ?_
        have k9 := off q7 B9 no_ints2 hg9
        have f9 := (f7 _ _ rfl).mono (show w.heap.size ≤ w1.heap.size from bb.size)
        have bb9 := ((bb.trans (hb2.mono bb.size)).trans ((Below.refl _ _).grown hg9 (Nat.le_trans bb.size hb2.size) (fun g hg => by injection hg with hg; omega)))
        obtain ⟨c0, c1, _, _⟩ := Blk.two BB9
        refine any_done (by kernel_rfl) ?_
        go_wp2
        exact bodyPost_ret (v := .agg #[.bool (ngB (x + y)), .slice A9 (digs 4294967296 (x + y).natAbs).length c9]) (by simp [results, Tryz.results39, go_sem, c0, c1]) rfl ⟨_, rfl, isZ_mk k9 rfl rfl, freshZ_mk f9, bb9⟩
  · have HZ : Hid (x + y = ((x.natAbs : Nat) : Int) - ((y.natAbs : Nat) : Int)) := by show _ = _; have := ngB_false hs0; have := ngB_true hs1; omega
    go_enter Tryz.func39, Tryz.ntmps39
    go_upto_region 1 with (fail)
    obtain ⟨wx, hwx, bb, B0, B1, B2, hsz⟩ := vars3 w 25 25 25 #[.bool false, .slice A0 (digs 4294967296 (x).natAbs).length c0] #[.bool true, .slice A1 (digs 4294967296 (y).natAbs).length c1] #[.bool false, .slice none 0 0]
    rw [hwx]
    clear hwx
    have k0s := s0.below bb
    have k0 : IsZ wx (.agg #[.bool false, .slice A0 (digs 4294967296 (x).natAbs).length c0]) (x) := isZ_mk k0s rfl hs0.symm
    have k1s := s1.below bb
    have k1 : IsZ wx (.agg #[.bool true, .slice A1 (digs 4294967296 (y).natAbs).length c1]) (y) := isZ_mk k1s rfl hs1.symm
    have hszb := bb.size
    refine flowp 6 [Pd.eq (.pointer (some ⟨w.heap.size, 0, none⟩)), Pd.eq (.bool false), Pd.eq (.pointer (some ⟨w.heap.size + 1, 0, none⟩)), Pd.eq (.bool true), Pd.eq (.bool false), Pd.eq (.bool false)] (by kernel_rfl) ?ob8 ?done8
    case ob8 =>
      refine And.intro (ob_fieldAddr rfl (wt_none rfl) (ev_far rfl rfl) (fun _ => by kernel_rfl) (fun _ => rfl)) ?_
      refine And.intro (ob_load rfl (wt_none rfl) (ev_dep (j := 0) (by kernel_rfl) rfl rfl) (fun w2 hb => run_load1 Tryz.underlying4 rfl ((B0.below hb).cell 0)) (fun _ _ => rfl)) ?_
      refine And.intro (ob_fieldAddr rfl (wt_none rfl) (ev_far rfl rfl) (fun _ => by kernel_rfl) (fun _ => rfl)) ?_
      refine And.intro (ob_load rfl (wt_none rfl) (ev_dep (j := 2) (by kernel_rfl) rfl rfl) (fun w2 hb => run_load1 Tryz.underlying4 rfl ((B1.below hb).cell 0)) (fun _ _ => rfl)) ?_
      refine And.intro (ob_bin rfl (wt_none rfl) (ev_dep (j := 1) (by kernel_rfl) rfl rfl) (ev_dep (j := 3) (by kernel_rfl) rfl rfl) (fun _ _ _ hx hy => ⟨.bool (false == true), by rw [hx, hy]; exact bin_eql_bool _ _ _ _ Tryz.underlying4 _, rfl⟩)) ?_
      refine And.intro (ob_assign rfl (wt_none rfl) (ev_dep (j := 4) (by kernel_rfl) rfl rfl) (fun _ _ h => h)) ?_
      trivial
    case done8 =>
      refine fun w1 hb1 v0 h0 v1 h1 v2 h2 v3 h3 v4 h4 v5 h5 b hbf => ?_
      obtain rfl := h0; obtain rfl := h1; obtain rfl := h2; obtain rfl := h3; obtain rfl := h4; obtain rfl := h5
      simp only [Act.put, List.setIfInBounds_toArray, List.set_cons_zero, List.set_cons_succ] at hbf
      subst hbf
      replace B0 := B0.below hb1
      replace B1 := B1.below hb1
      replace B2 := B2.below hb1
      replace k0s := k0s.below hb1
      replace k1s := k1s.below hb1
      replace k0 := k0.below hb1
      replace k1 := k1.below hb1
      replace bb := bb.trans (hb1.mono bb.size)
      have hszb := bb.size
      obtain ⟨x00, x01, y00, y01⟩ := Blk.two B0
      obtain ⟨x10, x11, y10, y11⟩ := Blk.two B1
      obtain ⟨x20, x21, y20, y21⟩ := Blk.two B2
      refine ops_done ?_
      go_upto_region 5 with (fail)
      refine flowp 5 [Pd.eq (.pointer (some ⟨w.heap.size, 1, none⟩)), Pd.eq (.slice A0 (digs 4294967296 (x).natAbs).length c0), Pd.eq (.pointer (some ⟨w.heap.size + 1, 1, none⟩)), Pd.eq (.slice A1 (digs 4294967296 (y).natAbs).length c1), pz (x + y) w1.heap.size] (by kernel_rfl) ?ob9 ?done9
      case ob9 =>
        refine And.intro (ob_fieldAddr rfl (wt_none rfl) (ev_far rfl rfl) (fun _ => by kernel_rfl) (fun _ => rfl)) ?_
        refine And.intro (ob_load rfl (wt_none rfl) (ev_dep (j := 0) (by kernel_rfl) rfl rfl) (fun w2 hb => run_load1 Tryz.underlying23 rfl ((B0.below hb).cell 1)) (fun _ _ => rfl)) ?_
        refine And.intro (ob_fieldAddr rfl (wt_none rfl) (ev_far rfl rfl) (fun _ => by kernel_rfl) (fun _ => rfl)) ?_
        refine And.intro (ob_load rfl (wt_none rfl) (ev_dep (j := 2) (by kernel_rfl) rfl rfl) (fun w2 hb => run_load1 Tryz.underlying23 rfl ((B1.below hb).cell 1)) (fun _ _ => rfl)) ?_
        refine And.intro (ob_call2 rfl Tryz.func74 (by kernel_rfl) (wt_none rfl) (ev_dep (j := 1) (by kernel_rfl) rfl rfl) (ev_dep (j := 3) (by kernel_rfl) rfl rfl) (fun w2 u0 u1 hb h0 h1 => by obtain rfl := h0; obtain rfl := h1; exact (diff_any _ _ _ _ (x + y) _ (k0s.below hb) (k1s.below hb) (Nat.le_trans HL.out (by decide)) (Nat.le_trans HL2.out (by decide)) HZ.out).mono fun e w3 h => RetZ.pd h hb.size)) ?_
        trivial
      case done9 =>
        refine fun w2 hb2 v0 h0 v1 h1 v2 h2 v3 h3 v4 h4 b hbf => ?_
        obtain rfl := h0; obtain rfl := h1; obtain rfl := h2; obtain rfl := h3
        obtain ⟨q4, f4⟩ := h4
        simp only [Act.put, List.setIfInBounds_toArray, List.set_cons_zero, List.set_cons_succ] at hbf
        subst hbf
        obtain ⟨u4, rfl, q4⟩ := q4
        obtain ⟨A9, c9, rfl, _⟩ := id q4
        have B9 := B2.below hb2
        refine ops_store (i := 5) rfl rfl rfl rfl rfl rfl (cells := [.bool (ngB (x + y)), .slice A9 (digs 4294967296 (x + y).natAbs).length c9]) rfl B9 rfl (by kernel_rfl) (one2 rfl rfl) fun w9 hg9 BB9 => ?_
        have k9 := off q4 B9 no_ints2 hg9
        have f9 := (f4 _ _ rfl).mono (show w.heap.size ≤ w1.heap.size from bb.size)
        have bb9 := ((bb.trans (hb2.mono bb.size)).trans ((Below.refl _ _).grown hg9 (Nat.le_trans bb.size hb2.size) (fun g hg => by injection hg with hg; omega)))
        obtain ⟨c0, c1, _, _⟩ := Blk.two BB9
        refine ops_done ?_
        go_wp2
        exact bodyPost_ret (v := .agg #[.bool (ngB (x + y)), .slice A9 (digs 4294967296 (x + y).natAbs).length c9]) (by simp [results, Tryz.results39, go_sem, c0, c1]) rfl ⟨_, rfl, isZ_mk k9 rfl rfl, freshZ_mk f9, bb9⟩
  · have HZ : Hid (x + y = ((y.natAbs : Nat) : Int) - ((x.natAbs : Nat) : Int)) := by show _ = _; have := ngB_true hs0; have := ngB_false hs1; omega
    go_enter Tryz.func39, Tryz.ntmps39
    go_upto_region 1 with (fail)
    obtain ⟨wx, hwx, bb, B0, B1, B2, hsz⟩ := vars3 w 25 25 25 #[.bool true, .slice A0 (digs 4294967296 (x).natAbs).length c0] #[.bool false, .slice A1 (digs 4294967296 (y).natAbs).length c1] #[.bool false, .slice none 0 0]
    rw [hwx]
    clear hwx
    have k0s := s0.below bb
    have k0 : IsZ wx (.agg #[.bool true, .slice A0 (digs 4294967296 (x).natAbs).length c0]) (x) := isZ_mk k0s rfl hs0.symm
    have k1s := s1.below bb
    have k1 : IsZ wx (.agg #[.bool false, .slice A1 (digs 4294967296 (y).natAbs).length c1]) (y) := isZ_mk k1s rfl hs1.symm
    have hszb := bb.size
    refine flowp 6 [Pd.eq (.pointer (some ⟨w.heap.size, 0, none⟩)), Pd.eq (.bool true), Pd.eq (.pointer (some ⟨w.heap.size + 1, 0, none⟩)), Pd.eq (.bool false), Pd.eq (.bool false), Pd.eq (.bool false)] (by kernel_rfl) ?ob10 ?done10
    case ob10 =>
      refine And.intro (ob_fieldAddr rfl (wt_none rfl) (ev_far rfl rfl) (fun _ => by kernel_rfl) (fun _ => rfl)) ?_
      refine And.intro (ob_load rfl (wt_none rfl) (ev_dep (j := 0) (by kernel_rfl) rfl rfl) (fun w2 hb => run_load1 Tryz.underlying4 rfl ((B0.below hb).cell 0)) (fun _ _ => rfl)) ?_
      refine And.intro (ob_fieldAddr rfl (wt_none rfl) (ev_far rfl rfl) (fun _ => by kernel_rfl) (fun _ => rfl)) ?_
      refine And.intro (ob_load rfl (wt_none rfl) (ev_dep (j := 2) (by kernel_rfl) rfl rfl) (fun w2 hb => run_load1 Tryz.underlying4 rfl ((B1.below hb).cell 0)) (fun _ _ => rfl)) ?_
      refine And.intro (ob_bin rfl (wt_none rfl) (ev_dep (j := 1) (by kernel_rfl) rfl rfl) (ev_dep (j := 3) (by kernel_rfl) rfl rfl) (fun _ _ _ hx hy => ⟨.bool (true == false), by rw [hx, hy]; exact bin_eql_bool _ _ _ _ Tryz.underlying4 _, rfl⟩)) ?_
      refine And.intro (ob_assign rfl (wt_none rfl) (ev_dep (j := 4) (by kernel_rfl) rfl rfl) (fun _ _ h => h)) ?_
      trivial
    case done10 =>
      refine fun w1 hb1 v0 h0 v1 h1 v2 h2 v3 h3 v4 h4 v5 h5 b hbf => ?_
      obtain rfl := h0; obtain rfl := h1; obtain rfl := h2; obtain rfl := h3; obtain rfl := h4; obtain rfl := h5
      simp only [Act.put, List.setIfInBounds_toArray, List.set_cons_zero, List.set_cons_succ] at hbf
      subst hbf
      replace B0 := B0.below hb1
      replace B1 := B1.below hb1
      replace B2 := B2.below hb1
      replace k0s := k0s.below hb1
      replace k1s := k1s.below hb1
      replace k0 := k0.below hb1
      replace k1 := k1.below hb1
      replace bb := bb.trans (hb1.mono bb.size)
      have hszb := bb.size
      obtain ⟨x00, x01, y00, y01⟩ := Blk.two B0
      obtain ⟨x10, x11, y10, y11⟩ := Blk.two B1
      obtain ⟨x20, x21, y20, y21⟩ := Blk.two B2
      refine ops_done ?_
      go_upto_region 4 with (fail)
      refine flowp 5 [Pd.eq (.pointer (some ⟨w.heap.size + 1, 1, none⟩)), Pd.eq (.slice A1 (digs 4294967296 (y).natAbs).length c1), Pd.eq (.pointer (some ⟨w.heap.size, 1, none⟩)), Pd.eq (.slice A0 (digs 4294967296 (x).natAbs).length c0), pz (x + y) w1.heap.size] (by kernel_rfl) ?ob11 ?done11
      case ob11 =>
        refine And.intro (ob_fieldAddr rfl (wt_none rfl) (ev_far rfl rfl) (fun _ => by kernel_rfl) (fun _ => rfl)) ?_
        refine And.intro (ob_load rfl (wt_none rfl) (ev_dep (j := 0) (by kernel_rfl) rfl rfl) (fun w2 hb => run_load1 Tryz.underlying23 rfl ((B1.below hb).cell 1)) (fun _ _ => rfl)) ?_
        refine And.intro (ob_fieldAddr rfl (wt_none rfl) (ev_far rfl rfl) (fun _ => by kernel_rfl) (fun _ => rfl)) ?_
        refine And.intro (ob_load rfl (wt_none rfl) (ev_dep (j := 2) (by kernel_rfl) rfl rfl) (fun w2 hb => run_load1 Tryz.underlying23 rfl ((B0.below hb).cell 1)) (fun _ _ => rfl)) ?_
        refine And.intro (ob_call2 rfl Tryz.func74 (by kernel_rfl) (wt_none rfl) (ev_dep (j := 1) (by kernel_rfl) rfl rfl) (ev_dep (j := 3) (by kernel_rfl) rfl rfl) (fun w2 u0 u1 hb h0 h1 => by obtain rfl := h0; obtain rfl := h1; exact (diff_any _ _ _ _ (x + y) _ (k1s.below hb) (k0s.below hb) (Nat.le_trans HL2.out (by decide)) (Nat.le_trans HL.out (by decide)) HZ.out).mono fun e w3 h => RetZ.pd h hb.size)) ?_
        trivial
      case done11 =>
        refine fun w2 hb2 v0 h0 v1 h1 v2 h2 v3 h3 v4 h4 b hbf => ?_
        obtain rfl := h0; obtain rfl := h1; obtain rfl := h2; obtain rfl := h3
        obtain ⟨q4, f4⟩ := h4
        simp only [Act.put, List.setIfInBounds_toArray, List.set_cons_zero, List.set_cons_succ] at hbf
        subst hbf
        obtain ⟨u4, rfl, q4⟩ := q4
        obtain ⟨A9, c9, rfl, _⟩ := id q4
        have B9 := B2.below hb2
        refine ops_store (i := 5) rfl rfl rfl rfl rfl rfl (cells := [.bool (ngB (x + y)), .slice A9 (digs 4294967296 (x + y).natAbs).length c9]) rfl B9 rfl (by kernel_rfl) (one2 rfl rfl) fun w9 hg9 BB9 => ?_
        have k9 := off q4 B9 no_ints2 hg9
        have f9 := (f4 _ _ rfl).mono (show w.heap.size ≤ w1.heap.size from bb.size)
        have bb9 := ((bb.trans (hb2.mono bb.size)).trans ((Below.refl _ _).grown hg9 (Nat.le_trans bb.size hb2.size) (fun g hg => by injection hg with hg; omega)))
        obtain ⟨c0, c1, _, _⟩ := Blk.two BB9
        refine ops_done ?_
        go_wp2
        exact bodyPost_ret (v := .agg #[.bool (ngB (x + y)), .slice A9 (digs 4294967296 (x + y).natAbs).length c9]) (by simp [results, Tryz.results39, go_sem, c0, c1]) rfl ⟨_, rfl, isZ_mk k9 rfl rfl, freshZ_mk f9, bb9⟩
  · have HZ : Hid (sg true (x.natAbs + y.natAbs) = x + y) := by show _ = _; have := ngB_true hs0; have := ngB_true hs1; rw [sg_true]; omega
    go_enter Tryz.func39, Tryz.ntmps39
    go_upto_region 1 with (fail)
    obtain ⟨wx, hwx, bb, B0, B1, B2, hsz⟩ := vars3 w 25 25 25 #[.bool true, .slice A0 (digs 4294967296 (x).natAbs).length c0] #[.bool true, .slice A1 (digs 4294967296 (y).natAbs).length c1] #[.bool false, .slice none 0 0]
    rw [hwx]
    clear hwx
    have k0s := s0.below bb
    have k0 : IsZ wx (.agg #[.bool true, .slice A0 (digs 4294967296 (x).natAbs).length c0]) (x) := isZ_mk k0s rfl hs0.symm
    have k1s := s1.below bb
    have k1 : IsZ wx (.agg #[.bool true, .slice A1 (digs 4294967296 (y).natAbs).length c1]) (y) := isZ_mk k1s rfl hs1.symm
    have hszb := bb.size
    refine flowp 6 [Pd.eq (.pointer (some ⟨w.heap.size, 0, none⟩)), Pd.eq (.bool true), Pd.eq (.pointer (some ⟨w.heap.size + 1, 0, none⟩)), Pd.eq (.bool true), Pd.eq (.bool true), Pd.eq (.bool true)] (by kernel_rfl) ?ob12 ?done12
    case ob12 =>
      refine And.intro (ob_fieldAddr rfl (wt_none rfl) (ev_far rfl rfl) (fun _ => by kernel_rfl) (fun _ => rfl)) ?_
      refine And.intro (ob_load rfl (wt_none rfl) (ev_dep (j := 0) (by kernel_rfl) rfl rfl) (fun w2 hb => run_load1 Tryz.underlying4 rfl ((B0.below hb).cell 0)) (fun _ _ => rfl)) ?_
      refine And.intro (ob_fieldAddr rfl (wt_none rfl) (ev_far rfl rfl) (fun _ => by kernel_rfl) (fun _ => rfl)) ?_
      refine And.intro (ob_load rfl (wt_none rfl) (ev_dep (j := 2) (by kernel_rfl) rfl rfl) (fun w2 hb => run_load1 Tryz.underlying4 rfl ((B1.below hb).cell 0)) (fun _ _ => rfl)) ?_
      refine And.intro (ob_bin rfl (wt_none rfl) (ev_dep (j := 1) (by kernel_rfl) rfl rfl) (ev_dep (j := 3) (by kernel_rfl) rfl rfl) (fun _ _ _ hx hy => ⟨.bool (true == true), by rw [hx, hy]; exact bin_eql_bool _ _ _ _ Tryz.underlying4 _, rfl⟩)) ?_
      refine And.intro (ob_assign rfl (wt_none rfl) (ev_dep (j := 4) (by kernel_rfl) rfl rfl) (fun _ _ h => h)) ?_
      trivial
    case done12 =>
      refine fun w1 hb1 v0 h0 v1 h1 v2 h2 v3 h3 v4 h4 v5 h5 b hbf => ?_
      obtain rfl := h0; obtain rfl := h1; obtain rfl := h2; obtain rfl := h3; obtain rfl := h4; obtain rfl := h5
      simp only [Act.put, List.setIfInBounds_toArray, List.set_cons_zero, List.set_cons_succ] at hbf
      subst hbf
      replace B0 := B0.below hb1
      replace B1 := B1.below hb1
      replace B2 := B2.below hb1
      replace k0s := k0s.below hb1
      replace k1s := k1s.below hb1
      replace k0 := k0.below hb1
      replace k1 := k1.below hb1
      replace bb := bb.trans (hb1.mono bb.size)
      have hszb := bb.size
      obtain ⟨x00, x01, y00, y01⟩ := Blk.two B0
      obtain ⟨x10, x11, y10, y11⟩ := Blk.two B1
      obtain ⟨x20, x21, y20, y21⟩ := Blk.two B2
      refine ops_done ?_
      go_upto_region 2 with (fail)
      refine flow 8 [Pd.eq (.pointer (some ⟨w.heap.size, 0, none⟩)), Pd.eq (.bool true), Pd.eq (.pointer (some ⟨w.heap.size, 1, none⟩)), Pd.eq (.slice A0 (digs 4294967296 (x).natAbs).length c0), Pd.eq (.pointer (some ⟨w.heap.size + 1, 1, none⟩)), Pd.eq (.slice A1 (digs 4294967296 (y).natAbs).length c1), ps .u64 (digs 4294967296 (x.natAbs + y.natAbs)) w1.heap.size, pz (x + y) w1.heap.size] (by kernel_rfl) (by kernel_rfl) ?ob13 ?done13
      case ob13 =>
        refine And.intro (ob_fieldAddr rfl (wt_none rfl) (ev_far rfl rfl) (fun _ => by kernel_rfl) (fun _ => rfl)) ?_
        refine And.intro (ob_load rfl (wt_none rfl) (ev_dep (j := 0) (by kernel_rfl) rfl rfl) (fun w2 hb => run_load1 Tryz.underlying4 rfl ((B0.drew.below hb).cell 0)) (fun _ _ => rfl)) ?_
        refine And.intro (ob_fieldAddr rfl (wt_none rfl) (ev_far rfl rfl) (fun _ => by kernel_rfl) (fun _ => rfl)) ?_
        refine And.intro (ob_load rfl (wt_none rfl) (ev_dep (j := 2) (by kernel_rfl) rfl rfl) (fun w2 hb => run_load1 Tryz.underlying23 rfl ((B0.drew.below hb).cell 1)) (fun _ _ => rfl)) ?_
        refine And.intro (ob_fieldAddr rfl (wt_none rfl) (ev_far rfl rfl) (fun _ => by kernel_rfl) (fun _ => rfl)) ?_
        refine And.intro (ob_load rfl (wt_none rfl) (ev_dep (j := 4) (by kernel_rfl) rfl rfl) (fun w2 hb => run_load1 Tryz.underlying23 rfl ((B1.drew.below hb).cell 1)) (fun _ _ => rfl)) ?_
        refine And.intro (ob_call2 rfl Tryz.func73 (by kernel_rfl) (wt_none rfl) (ev_dep (j := 3) (by kernel_rfl) rfl rfl) (ev_dep (j := 5) (by kernel_rfl) rfl rfl) (fun w2 u0 u1 hb h0 h1 => by obtain rfl := h0; obtain rfl := h1; exact (add_any _ _ _ _ _ (k0s.drew.below hb) (k1s.drew.below hb) _ rfl HS.out).mono fun e w3 h => RetS.pd h hb.size)) ?_
        refine And.intro (ob_call2 rfl Tryz.func72 (by kernel_rfl) (wt_none rfl) (ev_dep (j := 1) (by kernel_rfl) rfl rfl) (ev_dep (j := 6) (by kernel_rfl) rfl rfl) (fun w2 u0 u1 hb h0 h1 => by obtain rfl := h0; exact signed_pd _ _ _ (x + y) _ h1.1 h1.2 HZ.out)) ?_
        trivial
      case done13 =>
        refine fun w2 hb2 v0 h0 v1 h1 v2 h2 v3 h3 v4 h4 v5 h5 v6 h6 v7 h7 b hbf => ?_
        obtain rfl := h0; obtain rfl := h1; obtain rfl := h2; obtain rfl := h3; obtain rfl := h4; obtain rfl := h5
        obtain ⟨q6, f6⟩ := h6
        obtain ⟨q7, f7⟩ := h7
        simp only [Act.put, List.setIfInBounds_toArray, List.set_cons_zero, List.set_cons_succ] at hbf
        subst hbf
        obtain ⟨u7, rfl, q7⟩ := q7
        obtain ⟨A9, c9, rfl, _⟩ := id q7
        have B9 := B2.below hb2
        refine any_store (i := 8) (by kernel_rfl) rfl rfl rfl rfl rfl rfl (cells := [.bool (ngB (x + y)), .slice A9 (digs 4294967296 (x + y).natAbs).length c9]) rfl B9 rfl (by kernel_rfl) (one2 rfl rfl) fun w9 hg9 BB9 => ?_
        have k9 := off q7 B9 no_ints2 hg9
        have f9 := (f7 _ _ rfl).mono (show w.heap.size ≤ w1.heap.size from bb.size)
        have bb9 := ((bb.trans (hb2.mono bb.size)).trans ((Below.refl _ _).grown hg9 (Nat.le_trans bb.size hb2.size) (fun g hg => by injection hg with hg; omega)))
        obtain ⟨c0, c1, _, _⟩ := Blk.two BB9
        refine any_done (by kernel_rfl) ?_
        go_wp2
        exact bodyPost_ret (v := .agg #[.bool (ngB (x + y)), .slice A9 (digs 4294967296 (x + y).natAbs).length c9]) (by simp [results, Tryz.results39, go_sem, c0, c1]) rfl ⟨_, rfl, isZ_mk k9 rfl rfl, freshZ_mk f9, bb9⟩

set_option maxHeartbeats 1600000 in
set_option maxRecDepth 100000 in
theorem radd_any (a0 : Value) (x : Int) (a1 : Value) (y : Int) (w : World) (h0 : IsR w a0 x) (h1 : IsR w a1 y) (hl : lenZ x ≤ 30000) (hl2 : lenZ y ≤ 30000) :
    Calls Tryz.prog 47 #[a0, a1] w (RetR (x + y) w) := by
  have HL : Hid ((digs 10000 x.natAbs).length ≤ 1000000) := Nat.le_trans (lenZ_dec x) (by omega)
  have HL2 : Hid ((digs 10000 y.natAbs).length ≤ 1000000) := Nat.le_trans (lenZ_dec y) (by omega)
  obtain ⟨u0, rfl, s0⟩ := h0
  obtain ⟨A0, c0, rfl, _⟩ := id s0
  obtain ⟨u1, rfl, s1⟩ := h1
  obtain ⟨A1, c1, rfl, _⟩ := id s1
  rcases hs0 : ngB x with _ | _ <;> rcases hs1 : ngB y with _ | _
  · have HZ : Hid (sg false (x.natAbs + y.natAbs) = x + y) := by show _ = _; have := ngB_false hs0; have := ngB_false hs1; rw [sg_false]; omega
    go_enter Tryz.func47, Tryz.ntmps47
    go_upto_region 1 with (fail)
    obtain ⟨wx, hwx, bb, B0, B1, B2, hsz⟩ := vars3 w 32 32 32 #[.bool false, .slice A0 (digs 10000 (x).natAbs).length c0] #[.bool false, .slice A1 (digs 10000 (y).natAbs).length c1] #[.bool false, .slice none 0 0]
    rw [hwx]
    clear hwx
    have k0s := s0.below bb
    have k0 : IsR wx (.agg #[.bool false, .slice A0 (digs 10000 (x).natAbs).length c0]) (x) := isR_mk k0s rfl hs0.symm
    have k1s := s1.below bb
    have k1 : IsR wx (.agg #[.bool false, .slice A1 (digs 10000 (y).natAbs).length c1]) (y) := isR_mk k1s rfl hs1.symm
    have hszb := bb.size
    refine flowp 5 [Pd.eq (.pointer (some ⟨w.heap.size, 0, none⟩)), Pd.eq (.bool false), Pd.eq (.pointer (some ⟨w.heap.size + 1, 0, none⟩)), Pd.eq (.bool false), Pd.eq (.bool true)] (by kernel_rfl) ?ob14 ?done14
    case ob14 =>
      refine And.intro (ob_fieldAddr rfl (wt_none rfl) (ev_far rfl rfl) (fun _ => by kernel_rfl) (fun _ => rfl)) ?_
      refine And.intro (ob_load rfl (wt_none rfl) (ev_dep (j := 0) (by kernel_rfl) rfl rfl) (fun w2 hb => run_load1 Tryz.underlying4 rfl ((B0.below hb).cell 0)) (fun _ _ => rfl)) ?_
      refine And.intro (ob_fieldAddr rfl (wt_none rfl) (ev_far rfl rfl) (fun _ => by kernel_rfl) (fun _ => rfl)) ?_
      refine And.intro (ob_load rfl (wt_none rfl) (ev_dep (j := 2) (by kernel_rfl) rfl rfl) (fun w2 hb => run_load1 Tryz.underlying4 rfl ((B1.below hb).cell 0)) (fun _ _ => rfl)) ?_
      refine And.intro (ob_bin rfl (wt_none rfl) (ev_dep (j := 1) (by kernel_rfl) rfl rfl) (ev_dep (j := 3) (by kernel_rfl) rfl rfl) (fun _ _ _ hx hy => ⟨.bool (false == false), by rw [hx, hy]; exact bin_eql_bool _ _ _ _ Tryz.underlying4 _, rfl⟩)) ?_
      trivial
    case done14 =>
      refine fun w1 hb1 v0 h0 v1 h1 v2 h2 v3 h3 v4 h4 b hbf => ?_
      obtain rfl := h0; obtain rfl := h1; obtain rfl := h2; obtain rfl := h3; obtain rfl := h4
      simp only [Act.put, List.setIfInBounds_toArray, List.set_cons_zero, List.set_cons_succ] at hbf
      subst hbf
      replace B0 := B0.below hb1
      replace B1 := B1.below hb1
      replace B2 := B2.below hb1
      replace k0s := k0s.below hb1
      replace k1s := k1s.below hb1
      replace k0 := k0.below hb1
      replace k1 := k1.below hb1
      replace bb := bb.trans (hb1.mono bb.size)
      have hszb := bb.size
      obtain ⟨x00, x01, y00, y01⟩ := Blk.two B0
      obtain ⟨x10, x11, y10, y11⟩ := Blk.two B1
      obtain ⟨x20, x21, y20, y21⟩ := Blk.two B2
      refine ops_done ?_
      go_upto_region 2 with (fail)
      refine flow 8 [Pd.eq (.pointer (some ⟨w.heap.size, 0, none⟩)), Pd.eq (.bool false), Pd.eq (.pointer (some ⟨w.heap.size, 1, none⟩)), Pd.eq (.slice A0 (digs 10000 (x).natAbs).length c0), Pd.eq (.pointer (some ⟨w.heap.size + 1, 1, none⟩)), Pd.eq (.slice A1 (digs 10000 (y).natAbs).length c1), ps .i64 (digs 10000 (x.natAbs + y.natAbs)) w1.heap.size, pr (x + y)] (by kernel_rfl) (by kernel_rfl) ?ob15 ?done15
      case ob15 =>
        refine And.intro (ob_fieldAddr rfl (wt_none rfl) (ev_far rfl rfl) (fun _ => by kernel_rfl) (fun _ => rfl)) ?_
        refine And.intro (ob_load rfl (wt_none rfl) (ev_dep (j := 0) (by kernel_rfl) rfl rfl) (fun w2 hb => run_load1 Tryz.underlying4 rfl ((B0.drew.below hb).cell 0)) (fun _ _ => rfl)) ?_
        refine And.intro (ob_fieldAddr rfl (wt_none rfl) (ev_far rfl rfl) (fun _ => by kernel_rfl) (fun _ => rfl)) ?_
        refine And.intro (ob_load rfl (wt_none rfl) (ev_dep (j := 2) (by kernel_rfl) rfl rfl) (fun w2 hb => run_load1 Tryz.underlying30 rfl ((B0.drew.below hb).cell 1)) (fun _ _ => rfl)) ?_
        refine And.intro (ob_fieldAddr rfl (wt_none rfl) (ev_far rfl rfl) (fun _ => by kernel_rfl) (fun _ => rfl)) ?_
        refine And.intro (ob_load rfl (wt_none rfl) (ev_dep (j := 4) (by kernel_rfl) rfl rfl) (fun w2 hb => run_load1 Tryz.underlying30 rfl ((B1.drew.below hb).cell 1)) (fun _ _ => rfl)) ?_
        refine And.intro (ob_call2 rfl Tryz.func78 (by kernel_rfl) (wt_none rfl) (ev_dep (j := 3) (by kernel_rfl) rfl rfl) (ev_dep (j := 5) (by kernel_rfl) rfl rfl) (fun w2 u0 u1 hb h0 h1 => by obtain rfl := h0; obtain rfl := h1; exact (refAdd_any _ _ _ _ _ (k0s.drew.below hb) (k1s.drew.below hb) HL.out HL2.out).mono fun e w3 h => RetS.pd h hb.size)) ?_
        refine And.intro (ob_call2 rfl Tryz.func66 (by kernel_rfl) (wt_none rfl) (ev_dep (j := 1) (by kernel_rfl) rfl rfl) (ev_dep (j := 6) (by kernel_rfl) rfl rfl) (fun w2 u0 u1 hb h0 h1 => by obtain rfl := h0; exact made_pd _ _ _ (x + y) _ h1.1 HZ.out)) ?_
        trivial
      case done15 =>
        refine fun w2 hb2 v0 h0 v1 h1 v2 h2 v3 h3 v4 h4 v5 h5 v6 h6 v7 h7 b hbf => ?_
        obtain rfl := h0; obtain rfl := h1; obtain rfl := h2; obtain rfl := h3; obtain rfl := h4; obtain rfl := h5
        obtain ⟨q6, f6⟩ := h6
        have q7 := h7
        simp only [Act.put, List.setIfInBounds_toArray, List.set_cons_zero, List.set_cons_succ] at hbf
        subst hbf
        obtain ⟨u7, rfl, q7⟩ := q7
        obtain ⟨A9, c9, rfl, _⟩ := id q7
        have B9 := B2.below hb2
        refine any_store (i := 8) (by kernel_rfl) rfl rfl rfl rfl rfl rfl (cells := [.bool (ngB (x + y)), .slice A9 (digs 10000 (x + y).natAbs).length c9]) rfl B9 rfl (by kernel_rfl) (one2 rfl rfl) fun w9 hg9 BB9 => ?_
        have k9 := off q7 B9 no_ints2 hg9
        have bb9 := ((bb.trans (hb2.mono bb.size)).trans ((Below.refl _ _).grown hg9 (Nat.le_trans bb.size hb2.size) (fun g hg => by injection hg with hg; omega)))
        obtain ⟨c0, c1, _, _⟩ := Blk.two BB9
        refine any_done (by kernel_rfl) ?_
        go_wp2
        exact bodyPost_ret (v := .agg #[.bool (ngB (x + y)), .slice A9 (digs 10000 (x + y).natAbs).length c9]) (by simp [results, Tryz.results47, go_sem, c0, c1]) rfl ⟨_, rfl, isR_mk k9 rfl rfl, bb9⟩
  · by_cases hle : y.natAbs ≤ x.natAbs
    · have HZ : Hid (sg false (x.natAbs - y.natAbs) = x + y) := by show _ = _; have := ngB_false hs0; have := ngB_true hs1; rw [sg_false]; omega
      have HO : Hid ((0 : Int) ≤ ord x.natAbs y.natAbs) := by show (0 : Int) ≤ _; have := ord_neg x.natAbs y.natAbs; have h3 := @ord_le0 y.natAbs x.natAbs; have h4 := @ord_lt0 x.natAbs y.natAbs; omega
      have HLE : Hid (y.natAbs ≤ x.natAbs) := by show _ ≤ _; omega
      clear hle
      go_enter Tryz.func47, Tryz.ntmps47
      go_upto_region 1 with (fail)
      obtain ⟨wx, hwx, bb, B0, B1, B2, hsz⟩ := vars3 w 32 32 32 #[.bool false, .slice A0 (digs 10000 (x).natAbs).length c0] #[.bool true, .slice A1 (digs 10000 (y).natAbs).length c1] #[.bool false, .slice none 0 0]
      rw [hwx]
      clear hwx
      have k0s := s0.below bb
      have k0 : IsR wx (.agg #[.bool false, .slice A0 (digs 10000 (x).natAbs).length c0]) (x) := isR_mk k0s rfl hs0.symm
      have k1s := s1.below bb
      have k1 : IsR wx (.agg #[.bool true, .slice A1 (digs 10000 (y).natAbs).length c1]) (y) := isR_mk k1s rfl hs1.symm
      have hszb := bb.size
      refine flowp 5 [Pd.eq (.pointer (some ⟨w.heap.size, 0, none⟩)), Pd.eq (.bool false), Pd.eq (.pointer (some ⟨w.heap.size + 1, 0, none⟩)), Pd.eq (.bool true), Pd.eq (.bool false)] (by kernel_rfl) ?ob16 ?done16
      case ob16 =>
        refine And.intro (ob_fieldAddr rfl (wt_none rfl) (ev_far rfl rfl) (fun _ => by kernel_rfl) (fun _ => rfl)) ?_
        refine And.intro (ob_load rfl (wt_none rfl) (ev_dep (j := 0) (by kernel_rfl) rfl rfl) (fun w2 hb => run_load1 Tryz.underlying4 rfl ((B0.below hb).cell 0)) (fun _ _ => rfl)) ?_
        refine And.intro (ob_fieldAddr rfl (wt_none rfl) (ev_far rfl rfl) (fun _ => by kernel_rfl) (fun _ => rfl)) ?_
        refine And.intro (ob_load rfl (wt_none rfl) (ev_dep (j := 2) (by kernel_rfl) rfl rfl) (fun w2 hb => run_load1 Tryz.underlying4 rfl ((B1.below hb).cell 0)) (fun _ _ => rfl)) ?_
        refine And.intro (ob_bin rfl (wt_none rfl) (ev_dep (j := 1) (by kernel_rfl) rfl rfl) (ev_dep (j := 3) (by kernel_rfl) rfl rfl) (fun _ _ _ hx hy => ⟨.bool (false == true), by rw [hx, hy]; exact bin_eql_bool _ _ _ _ Tryz.underlying4 _, rfl⟩)) ?_
        trivial
      case done16 =>
        refine fun w1 hb1 v0 h0 v1 h1 v2 h2 v3 h3 v4 h4 b hbf => ?_
        obtain rfl := h0; obtain rfl := h1; obtain rfl := h2; obtain rfl := h3; obtain rfl := h4
        simp only [Act.put, List.setIfInBounds_toArray, List.set_cons_zero, List.set_cons_succ] at hbf
        subst hbf
        replace B0 := B0.below hb1
        replace B1 := B1.below hb1
        replace B2 := B2.below hb1
        replace k0s := k0s.below hb1
        replace k1s := k1s.below hb1
        replace k0 := k0.below hb1
        replace k1 := k1.below hb1
        replace bb := bb.trans (hb1.mono bb.size)
        have hszb := bb.size
        obtain ⟨x00, x01, y00, y01⟩ := Blk.two B0
        obtain ⟨x10, x11, y10, y11⟩ := Blk.two B1
        obtain ⟨x20, x21, y20, y21⟩ := Blk.two B2
        refine ops_done ?_
        go_upto_region 3 with (fail)
        refine flowp 6 [Pd.eq (.pointer (some ⟨w.heap.size, 1, none⟩)), Pd.eq (.slice A0 (digs 10000 (x).natAbs).length c0), Pd.eq (.pointer (some ⟨w.heap.size + 1, 1, none⟩)), Pd.eq (.slice A1 (digs 10000 (y).natAbs).length c1), Pd.eq (.int .i64 (ord x.natAbs y.natAbs)), Pd.eq (.bool true)] (by kernel_rfl) ?ob17 ?done17
        case ob17 =>
          refine And.intro (ob_fieldAddr rfl (wt_none rfl) (ev_far rfl rfl) (fun _ => by kernel_rfl) (fun _ => rfl)) ?_
          refine And.intro (ob_load rfl (wt_none rfl) (ev_dep (j := 0) (by kernel_rfl) rfl rfl) (fun w2 hb => run_load1 Tryz.underlying30 rfl ((B0.below hb).cell 1)) (fun _ _ => rfl)) ?_
          refine And.intro (ob_fieldAddr rfl (wt_none rfl) (ev_far rfl rfl) (fun _ => by kernel_rfl) (fun _ => rfl)) ?_
          refine And.intro (ob_load rfl (wt_none rfl) (ev_dep (j := 2) (by kernel_rfl) rfl rfl) (fun w2 hb => run_load1 Tryz.underlying30 rfl ((B1.below hb).cell 1)) (fun _ _ => rfl)) ?_
          refine And.intro (ob_call2 rfl Tryz.func79 (by kernel_rfl) (wt_none rfl) (ev_dep (j := 1) (by kernel_rfl) rfl rfl) (ev_dep (j := 3) (by kernel_rfl) rfl rfl) (fun w2 u0 u1 hb h0 h1 => by obtain rfl := h0; obtain rfl := h1; exact (refCmp_at _ _ _ _ _ _ (k0s.below hb) (k1s.below hb) rfl).mono fun e w3 h => RetV.pd h)) ?_
          refine And.intro (ob_bin rfl (wt_none rfl) (ev_dep (j := 4) (by kernel_rfl) rfl rfl) (ev_const _) (fun _ _ _ hx hy => ⟨_, by rw [hx, hy]; exact bin_geq_int _ _ _ _ _, congrArg Value.bool (decide_eq_true HO.out)⟩)) ?_
          trivial
        case done17 =>
          refine fun w2 hb2 v0 h0 v1 h1 v2 h2 v3 h3 v4 h4 v5 h5 b hbf => ?_
          obtain rfl := h0; obtain rfl := h1; obtain rfl := h2; obtain rfl := h3; obtain rfl := h4; obtain rfl := h5
          simp only [Act.put, List.setIfInBounds_toArray, List.set_cons_zero, List.set_cons_succ] at hbf
          subst hbf
          replace B0 := B0.below hb2
          replace B1 := B1.below hb2
          replace B2 := B2.below hb2
          replace k0s := k0s.below hb2
          replace k1s := k1s.below hb2
          replace k0 := k0.below hb2
          replace k1 := k1.below hb2
          replace bb := bb.trans (hb2.mono bb.size)
          have hszb := bb.size
          obtain ⟨x00, x01, y00, y01⟩ := Blk.two B0
          obtain ⟨x10, x11, y10, y11⟩ := Blk.two B1
          obtain ⟨x20, x21, y20, y21⟩ := Blk.two B2
          refine ops_done ?_
          go_upto_region 4 with (fail)
          refine flow 8 [Pd.eq (.pointer (some ⟨w.heap.size, 0, none⟩)), Pd.eq (.bool false), Pd.eq (.pointer (some ⟨w.heap.size, 1, none⟩)), Pd.eq (.slice A0 (digs 10000 (x).natAbs).length c0), Pd.eq (.pointer (some ⟨w.heap.size + 1, 1, none⟩)), Pd.eq (.slice A1 (digs 10000 (y).natAbs).length c1), ps .i64 (digs 10000 (x.natAbs - y.natAbs)) w2.heap.size, pr (x + y)] (by kernel_rfl) (by kernel_rfl) ?ob18 ?done18
          case ob18 =>
            refine And.intro (ob_fieldAddr rfl (wt_none rfl) (ev_far rfl rfl) (fun _ => by kernel_rfl) (fun _ => rfl)) ?_
            refine And.intro (ob_load rfl (wt_none rfl) (ev_dep (j := 0) (by kernel_rfl) rfl rfl) (fun w2 hb => run_load1 Tryz.underlying4 rfl ((B0.drew.below hb).cell 0)) (fun _ _ => rfl)) ?_
            refine And.intro (ob_fieldAddr rfl (wt_none rfl) (ev_far rfl rfl) (fun _ => by kernel_rfl) (fun _ => rfl)) ?_
            refine And.intro (ob_load rfl (wt_none rfl) (ev_dep (j := 2) (by kernel_rfl) rfl rfl) (fun w2 hb => run_load1 Tryz.underlying30 rfl ((B0.drew.below hb).cell 1)) (fun _ _ => rfl)) ?_
            refine And.intro (ob_fieldAddr rfl (wt_none rfl) (ev_far rfl rfl) (fun _ => by kernel_rfl) (fun _ => rfl)) ?_
            refine And.intro (ob_load rfl (wt_none rfl) (ev_dep (j := 4) (by kernel_rfl) rfl rfl) (fun w2 hb => run_load1 Tryz.underlying30 rfl ((B1.drew.below hb).cell 1)) (fun _ _ => rfl)) ?_
            refine And.intro (ob_call2 rfl Tryz.func80 (by kernel_rfl) (wt_none rfl) (ev_dep (j := 3) (by kernel_rfl) rfl rfl) (ev_dep (j := 5) (by kernel_rfl) rfl rfl) (fun w2 u0 u1 hb h0 h1 => by obtain rfl := h0; obtain rfl := h1; exact (refSub_any _ _ _ _ _ (k0s.drew.below hb) (k1s.drew.below hb) HL.out HLE.out _ rfl).mono fun e w3 h => RetS.pd h hb.size)) ?_
            refine And.intro (ob_call2 rfl Tryz.func66 (by kernel_rfl) (wt_none rfl) (ev_dep (j := 1) (by kernel_rfl) rfl rfl) (ev_dep (j := 6) (by kernel_rfl) rfl rfl) (fun w2 u0 u1 hb h0 h1 => by obtain rfl := h0; exact made_pd _ _ _ (x + y) _ h1.1 HZ.out)) ?_
            trivial
          case done18 =>
            refine fun w3 hb3 v0 h0 v1 h1 v2 h2 v3 h3 v4 h4 v5 h5 v6 h6 v7 h7 b hbf => ?_
            obtain rfl := h0; obtain rfl := h1; obtain rfl := h2; obtain rfl := h3; obtain rfl := h4; obtain rfl := h5
            obtain ⟨q6, f6⟩ := h6
            have q7 := h7
            simp only [Act.put, List.setIfInBounds_toArray, List.set_cons_zero, List.set_cons_succ] at hbf
            subst hbf
            obtain ⟨u7, rfl, q7⟩ := q7
            obtain ⟨A9, c9, rfl, _⟩ := id q7
            have B9 := B2.below hb3
            refine any_store (i := 8) (by kernel_rfl) rfl rfl rfl rfl rfl rfl (cells := [.bool (ngB (x + y)), .slice A9 (digs 10000 (x + y).natAbs).length c9]) rfl B9 rfl (by kernel_rfl) (one2 rfl rfl) fun w9 hg9 BB9 => ?_
            have k9 := off q7 B9 no_ints2 hg9
            have bb9 := ((bb.trans (hb3.mono bb.size)).trans ((Below.refl _ _).grown hg9 (Nat.le_trans bb.size hb3.size) (fun g hg => by injection hg with hg; omega)))
            obtain ⟨c0, c1, _, _⟩ := Blk.two BB9
            refine any_done (by kernel_rfl) ?_
            go_wp2
            exact bodyPost_ret (v := .agg #[.bool (ngB (x + y)), .slice A9 (digs 10000 (x + y).natAbs).length c9]) (by simp [results, Tryz.results47, go_sem, c0, c1]) rfl ⟨_, rfl, isR_mk k9 rfl rfl, bb9⟩
    · have HZ : Hid (sg true (y.natAbs - x.natAbs) = x + y) := by show _ = _; have := ngB_false hs0; have := ngB_true hs1; rw [sg_true]; omega
      have HO : Hid (¬ (0 : Int) ≤ ord x.natAbs y.natAbs) := by show ¬ _; have := ord_neg x.natAbs y.natAbs; have h3 := @ord_le0 y.natAbs x.natAbs; have h4 := @ord_lt0 x.natAbs y.natAbs; omega
      have HLE : Hid (x.natAbs ≤ y.natAbs) := by show _ ≤ _; omega
      clear hle
      go_enter Tryz.func47, Tryz.ntmps47
      go_upto_region 1 with (fail)
      obtain ⟨wx, hwx, bb, B0, B1, B2, hsz⟩ := vars3 w 32 32 32 #[.bool false, .slice A0 (digs 10000 (x).natAbs).length c0] #[.bool true, .slice A1 (digs 10000 (y).natAbs).length c1] #[.bool false, .slice none 0 0]
      rw [hwx]
      clear hwx
      have k0s := s0.below bb
      have k0 : IsR wx (.agg #[.bool false, .slice A0 (digs 10000 (x).natAbs).length c0]) (x) := isR_mk k0s rfl hs0.symm
      have k1s := s1.below bb
      have k1 : IsR wx (.agg #[.bool true, .slice A1 (digs 10000 (y).natAbs).length c1]) (y) := isR_mk k1s rfl hs1.symm
      have hszb := bb.size
      refine flowp 5 [Pd.eq (.pointer (some ⟨w.heap.size, 0, none⟩)), Pd.eq (.bool false), Pd.eq (.pointer (some ⟨w.heap.size + 1, 0, none⟩)), Pd.eq (.bool true), Pd.eq (.bool false)] (by kernel_rfl) ?ob19 ?done19
      case ob19 =>
        refine And.intro (ob_fieldAddr rfl (wt_none rfl) (ev_far rfl rfl) (fun _ => by kernel_rfl) (fun _ => rfl)) ?_
        refine And.intro (ob_load rfl (wt_none rfl) (ev_dep (j := 0) (by kernel_rfl) rfl rfl) (fun w2 hb => run_load1 Tryz.underlying4 rfl ((B0.below hb).cell 0)) (fun _ _ => rfl)) ?_
        refine And.intro (ob_fieldAddr rfl (wt_none rfl) (ev_far rfl rfl) (fun _ => by kernel_rfl) (fun _ => rfl)) ?_
        refine And.intro (ob_load rfl (wt_none rfl) (ev_dep (j := 2) (by kernel_rfl) rfl rfl) (fun w2 hb => run_load1 Tryz.underlying4 rfl ((B1.below hb).cell 0)) (fun _ _ => rfl)) ?_
        refine And.intro (ob_bin rfl (wt_none rfl) (ev_dep (j := 1) (by kernel_rfl) rfl rfl) (ev_dep (j := 3) (by kernel_rfl) rfl rfl) (fun _ _ _ hx hy => ⟨.bool (false == true), by rw [hx, hy]; exact bin_eql_bool _ _ _ _ Tryz.underlying4 _, rfl⟩)) ?_
        trivial
      case done19 =>
        refine fun w1 hb1 v0 h0 v1 h1 v2 h2 v3 h3 v4 h4 b hbf => ?_
        obtain rfl := h0; obtain rfl := h1; obtain rfl := h2; obtain rfl := h3; obtain rfl := h4
        simp only [Act.put, List.setIfInBounds_toArray, List.set_cons_zero, List.set_cons_succ] at hbf
        subst hbf
        replace B0 := B0.below hb1
        replace B1 := B1.below hb1
        replace B2 := B2.below hb1
        replace k0s := k0s.below hb1
        replace k1s := k1s.below hb1
        replace k0 := k0.below hb1
        replace k1 := k1.below hb1
        replace bb := bb.trans (hb1.mono bb.size)
        have hszb := bb.size
        obtain ⟨x00, x01, y00, y01⟩ := Blk.two B0
        obtain ⟨x10, x11, y10, y11⟩ := Blk.two B1
        obtain ⟨x20, x21, y20, y21⟩ := Blk.two B2
        refine ops_done ?_
        go_upto_region 3 with (fail)
        refine flowp 6 [Pd.eq (.pointer (some ⟨w.heap.size, 1, none⟩)), Pd.eq (.slice A0 (digs 10000 (x).natAbs).length c0), Pd.eq (.pointer (some ⟨w.heap.size + 1, 1, none⟩)), Pd.eq (.slice A1 (digs 10000 (y).natAbs).length c1), Pd.eq (.int .i64 (ord x.natAbs y.natAbs)), Pd.eq (.bool false)] (by kernel_rfl) ?ob20 ?done20
        case ob20 =>
          refine And.intro (ob_fieldAddr rfl (wt_none rfl) (ev_far rfl rfl) (fun _ => by kernel_rfl) (fun _ => rfl)) ?_
          refine And.intro (ob_load rfl (wt_none rfl) (ev_dep (j := 0) (by kernel_rfl) rfl rfl) (fun w2 hb => run_load1 Tryz.underlying30 rfl ((B0.below hb).cell 1)) (fun _ _ => rfl)) ?_
          refine And.intro (ob_fieldAddr rfl (wt_none rfl) (ev_far rfl rfl) (fun _ => by kernel_rfl) (fun _ => rfl)) ?_
          refine And.intro (ob_load rfl (wt_none rfl) (ev_dep (j := 2) (by kernel_rfl) rfl rfl) (fun w2 hb => run_load1 Tryz.underlying30 rfl ((B1.below hb).cell 1)) (fun _ _ => rfl)) ?_
          refine And.intro (ob_call2 rfl Tryz.func79 (by kernel_rfl) (wt_none rfl) (ev_dep (j := 1) (by kernel_rfl) rfl rfl) (ev_dep (j := 3) (by kernel_rfl) rfl rfl) (fun w2 u0 u1 hb h0 h1 => by obtain rfl := h0; obtain rfl := h1; exact (refCmp_at _ _ _ _ _ _ (k0s.below hb) (k1s.below hb) rfl).mono fun e w3 h => RetV.pd h)) ?_
          refine And.intro (ob_bin rfl (wt_none rfl) (ev_dep (j := 4) (by kernel_rfl) rfl rfl) (ev_const _) (fun _ _ _ hx hy => ⟨_, by rw [hx, hy]; exact bin_geq_int _ _ _ _ _, congrArg Value.bool (decide_eq_false HO.out)⟩)) ?_
          trivial
        case done20 =>
          refine fun w2 hb2 v0 h0 v1 h1 v2 h2 v3 h3 v4 h4 v5 h5 b hbf => ?_
          obtain rfl := h0; obtain rfl := h1; obtain rfl := h2; obtain rfl := h3; obtain rfl := h4; obtain rfl := h5
          simp only [Act.put, List.setIfInBounds_toArray, List.set_cons_zero, List.set_cons_succ] at hbf
          subst hbf
          replace B0 := B0.below hb2
          replace B1 := B1.below hb2
          replace B2 := B2.below hb2
          replace k0s := k0s.below hb2
          replace k1s := k1s.below hb2
          replace k0 := k0.below hb2
          replace k1 := k1.below hb2
          replace bb := bb.trans (hb2.mono bb.size)
          have hszb := bb.size
          obtain ⟨x00, x01, y00, y01⟩ := Blk.two B0
          obtain ⟨x10, x11, y10, y11⟩ := Blk.two B1
          obtain ⟨x20, x21, y20, y21⟩ := Blk.two B2
          refine ops_done ?_
          go_upto_region 5 with (fail)
          refine flow 8 [Pd.eq (.pointer (some ⟨w.heap.size + 1, 0, none⟩)), Pd.eq (.bool true), Pd.eq (.pointer (some ⟨w.heap.size + 1, 1, none⟩)), Pd.eq (.slice A1 (digs 10000 (y).natAbs).length c1), Pd.eq (.pointer (some ⟨w.heap.size, 1, none⟩)), Pd.eq (.slice A0 (digs 10000 (x).natAbs).length c0), ps .i64 (digs 10000 (y.natAbs - x.natAbs)) w2.heap.size, pr (x + y)] (by kernel_rfl) (by kernel_rfl) ?ob21 ?done21
          case ob21 =>
            refine And.intro (ob_fieldAddr rfl (wt_none rfl) (ev_far rfl rfl) (fun _ => by kernel_rfl) (fun _ => rfl)) ?_
            refine And.intro (ob_load rfl (wt_none rfl) (ev_dep (j := 0) (by kernel_rfl) rfl rfl) (fun w2 hb => run_load1 Tryz.underlying4 rfl ((B1.drew.below hb).cell 0)) (fun _ _ => rfl)) ?_
            refine And.intro (ob_fieldAddr rfl (wt_none rfl) (ev_far rfl rfl) (fun _ => by kernel_rfl) (fun _ => rfl)) ?_
            refine And.intro (ob_load rfl (wt_none rfl) (ev_dep (j := 2) (by kernel_rfl) rfl rfl) (fun w2 hb => run_load1 Tryz.underlying30 rfl ((B1.drew.below hb).cell 1)) (fun _ _ => rfl)) ?_
            refine And.intro (ob_fieldAddr rfl (wt_none rfl) (ev_far rfl rfl) (fun _ => by kernel_rfl) (fun _ => rfl)) ?_
            refine And.intro (ob_load rfl (wt_none rfl) (ev_dep (j := 4) (by kernel_rfl) rfl rfl) (fun w2 hb => run_load1 Tryz.underlying30 rfl ((B0.drew.below hb).cell 1)) (fun _ _ => rfl)) ?_
            refine And.intro (ob_call2 rfl Tryz.func80 (by kernel_rfl) (wt_none rfl) (ev_dep (j := 3) (by kernel_rfl) rfl rfl) (ev_dep (j := 5) (by kernel_rfl) rfl rfl) (fun w2 u0 u1 hb h0 h1 => by obtain rfl := h0; obtain rfl := h1; exact (refSub_any _ _ _ _ _ (k1s.drew.below hb) (k0s.drew.below hb) HL2.out HLE.out _ rfl).mono fun e w3 h => RetS.pd h hb.size)) ?_
            refine And.intro (ob_call2 rfl Tryz.func66 (by kernel_rfl) (wt_none rfl) (ev_dep (j := 1) (by kernel_rfl) rfl rfl) (ev_dep (j := 6) (by kernel_rfl) rfl rfl) (fun w2 u0 u1 hb h0 h1 => by obtain rfl := h0; exact made_pd _ _ _ (x + y) _ h1.1 HZ.out)) ?_
            trivial
          case done21 =>
            refine fun w3 hb3 v0 h0 v1 h1 v2 h2 v3 h3 v4 h4 v5 h5 v6 h6 v7 h7 b hbf => ?_
            obtain rfl := h0; obtain rfl := h1; obtain rfl := h2; obtain rfl := h3; obtain rfl := h4; obtain rfl := h5
            obtain ⟨q6, f6⟩ := h6
            have q7 := h7
            simp only [Act.put, List.setIfInBounds_toArray, List.set_cons_zero, List.set_cons_succ] at hbf
            subst hbf
            obtain ⟨u7, rfl, q7⟩ := q7
            obtain ⟨A9, c9, rfl, _⟩ := id q7
            have B9 := B2.below hb3
            refine any_store (i := 8) (by kernel_rfl) rfl rfl rfl rfl rfl rfl (cells := [.bool (ngB (x + y)), .slice A9 (digs 10000 (x + y).natAbs).length c9]) rfl B9 rfl (by kernel_rfl) (one2 rfl rfl) fun w9 hg9 BB9 => ?_
            have k9 := off q7 B9 no_ints2 hg9
            have bb9 := ((bb.trans (hb3.mono bb.size)).trans ((Below.refl _ _).grown hg9 (Nat.le_trans bb.size hb3.size) (fun g hg => by injection hg with hg; omega)))
            obtain ⟨c0, c1, _, _⟩ := Blk.two BB9
            refine any_done (by kernel_rfl) ?_
            go_wp2
            exact bodyPost_ret (v := .agg #[.bool (ngB (x + y)), .slice A9 (digs 10000 (x + y).natAbs).length c9]) (by simp [results, Tryz.results47, go_sem, c0, c1]) rfl ⟨_, rfl, isR_mk k9 rfl rfl, bb9⟩
  · by_cases hle : y.natAbs ≤ x.natAbs
    · have HZ : Hid (sg true (x.natAbs - y.natAbs) = x + y) := by show _ = _; have := ngB_true hs0; have := ngB_false hs1; rw [sg_true]; omega
      have HO : Hid ((0 : Int) ≤ ord x.natAbs y.natAbs) := by show (0 : Int) ≤ _; have := ord_neg x.natAbs y.natAbs; have h3 := @ord_le0 y.natAbs x.natAbs; have h4 := @ord_lt0 x.natAbs y.natAbs; omega
      have HLE : Hid (y.natAbs ≤ x.natAbs) := by show _ ≤ _; omega
      clear hle
      go_enter Tryz.func47, Tryz.ntmps47
      go_upto_region 1 with (fail)
      obtain ⟨wx, hwx, bb, B0, B1, B2, hsz⟩ := vars3 w 32 32 32 #[.bool true, .slice A0 (digs 10000 (x).natAbs).length c0] #[.bool false, .slice A1 (digs 10000 (y).natAbs).length c1] #[.bool false, .slice none 0 0]
      rw [hwx]
      clear hwx
      have k0s := s0.below bb
      have k0 : IsR wx (.agg #[.bool true, .slice A0 (digs 10000 (x).natAbs).length c0]) (x) := isR_mk k0s rfl hs0.symm
      have k1s := s1.below bb
      have k1 : IsR wx (.agg #[.bool false, .slice A1 (digs 10000 (y).natAbs).length c1]) (y) := isR_mk k1s rfl hs1.symm
      have hszb := bb.size
      refine flowp 5 [Pd.eq (.pointer (some ⟨w.heap.size, 0, none⟩)), Pd.eq (.bool true), Pd.eq (.pointer (some ⟨w.heap.size + 1, 0, none⟩)), Pd.eq (.bool false), Pd.eq (.bool false)] (by kernel_rfl) ?ob22 ?done22
      case ob22 =>
        refine And.intro (ob_fieldAddr rfl (wt_none rfl) (ev_far rfl rfl) (fun _ => by kernel_rfl) (fun _ => rfl)) ?_
        refine And.intro (ob_load rfl (wt_none rfl) (ev_dep (j := 0) (by kernel_rfl) rfl rfl) (fun w2 hb => run_load1 Tryz.underlying4 rfl ((B0.below hb).cell 0)) (fun _ _ => rfl)) ?_
        refine And.intro (ob_fieldAddr rfl (wt_none rfl) (ev_far rfl rfl) (fun _ => by kernel_rfl) (fun _ => rfl)) ?_
        refine And.intro (ob_load rfl (wt_none rfl) (ev_dep (j := 2) (by kernel_rfl) rfl rfl) (fun w2 hb => run_load1 Tryz.underlying4 rfl ((B1.below hb).cell 0)) (fun _ _ => rfl)) ?_
        refine And.intro (ob_bin rfl (wt_none rfl) (ev_dep (j := 1) (by kernel_rfl) rfl rfl) (ev_dep (j := 3) (by kernel_rfl) rfl rfl) (fun _ _ _ hx hy => ⟨.bool (true == false), by rw [hx, hy]; exact bin_eql_bool _ _ _ _ Tryz.underlying4 _, rfl⟩)) ?_
        trivial
      case done22 =>
        refine fun w1 hb1 v0 h0 v1 h1 v2 h2 v3 h3 v4 h4 b hbf => ?_
        obtain rfl := h0; obtain rfl := h1; obtain rfl := h2; obtain rfl := h3; obtain rfl := h4
        simp only [Act.put, List.setIfInBounds_toArray, List.set_cons_zero, List.set_cons_succ] at hbf
        subst hbf
        replace B0 := B0.below hb1
        replace B1 := B1.below hb1
        replace B2 := B2.below hb1
        replace k0s := k0s.below hb1
        replace k1s := k1s.below hb1
        replace k0 := k0.below hb1
        replace k1 := k1.below hb1
        replace bb := bb.trans (hb1.mono bb.size)
        have hszb := bb.size
        obtain ⟨x00, x01, y00, y01⟩ := Blk.two B0
        obtain ⟨x10, x11, y10, y11⟩ := Blk.two B1
        obtain ⟨x20, x21, y20, y21⟩ := Blk.two B2
        refine ops_done ?_
        go_upto_region 3 with (fail)
        refine flowp 6 [Pd.eq (.pointer (some ⟨w.heap.size, 1, none⟩)), Pd.eq (.slice A0 (digs 10000 (x).natAbs).length c0), Pd.eq (.pointer (some ⟨w.heap.size + 1, 1, none⟩)), Pd.eq (.slice A1 (digs 10000 (y).natAbs).length c1), Pd.eq (.int .i64 (ord x.natAbs y.natAbs)), Pd.eq (.bool true)] (by kernel_rfl) ?ob23 ?done23
        case ob23 =>
          refine And.intro (ob_fieldAddr rfl (wt_none rfl) (ev_far rfl rfl) (fun _ => by kernel_rfl) (fun _ => rfl)) ?_
          refine And.intro (ob_load rfl (wt_none rfl) (ev_dep (j := 0) (by kernel_rfl) rfl rfl) (fun w2 hb => run_load1 Tryz.underlying30 rfl ((B0.below hb).cell 1)) (fun _ _ => rfl)) ?_
          refine And.intro (ob_fieldAddr rfl (wt_none rfl) (ev_far rfl rfl) (fun _ => by kernel_rfl) (fun _ => rfl)) ?_
          refine And.intro (ob_load rfl (wt_none rfl) (ev_dep (j := 2) (by kernel_rfl) rfl rfl) (fun w2 hb => run_load1 Tryz.underlying30 rfl ((B1.below hb).cell 1)) (fun _ _ => rfl)) ?_
          refine And.intro (ob_call2 rfl Tryz.func79 (by kernel_rfl) (wt_none rfl) (ev_dep (j := 1) (by kernel_rfl) rfl rfl) (ev_dep (j := 3) (by kernel_rfl) rfl rfl) (fun w2 u0 u1 hb h0 h1 => by obtain rfl := h0; obtain rfl := h1; exact (refCmp_at _ _ _ _ _ _ (k0s.below hb) (k1s.below hb) rfl).mono fun e w3 h => RetV.pd h)) ?_
          refine And.intro (ob_bin rfl (wt_none rfl) (ev_dep (j := 4) (by kernel_rfl) rfl rfl) (ev_const _) (fun _ _ _ hx hy => ⟨_, by rw [hx, hy]; exact bin_geq_int _ _ _ _ _, congrArg Value.bool (decide_eq_true HO.out)⟩)) ?_
          trivial
        case done23 =>
          refine fun w2 hb2 v0 h0 v1 h1 v2 h2 v3 h3 v4 h4 v5 h5 b hbf => ?_
          obtain rfl := h0; obtain rfl := h1; obtain rfl := h2; obtain rfl := h3; obtain rfl := h4; obtain rfl := h5
          simp only [Act.put, List.setIfInBounds_toArray, List.set_cons_zero, List.set_cons_succ] at hbf
          subst hbf
          replace B0 := B0.below hb2
          replace B1 := B1.below hb2
          replace B2 := B2.below hb2
          replace k0s := k0s.below hb2
          replace k1s := k1s.below hb2
          replace k0 := k0.below hb2
          replace k1 := k1.below hb2
          replace bb := bb.trans (hb2.mono bb.size)
          have hszb := bb.size
          obtain ⟨x00, x01, y00, y01⟩ := Blk.two B0
          obtain ⟨x10, x11, y10, y11⟩ := Blk.two B1
          obtain ⟨x20, x21, y20, y21⟩ := Blk.two B2
          refine ops_done ?_
          go_upto_region 4 with (fail)
          refine flow 8 [Pd.eq (.pointer (some ⟨w.heap.size, 0, none⟩)), Pd.eq (.bool true), Pd.eq (.pointer (some ⟨w.heap.size, 1, none⟩)), Pd.eq (.slice A0 (digs 10000 (x).natAbs).length c0), Pd.eq (.pointer (some ⟨w.heap.size + 1, 1, none⟩)), Pd.eq (.slice A1 (digs 10000 (y).natAbs).length c1), ps .i64 (digs 10000 (x.natAbs - y.natAbs)) w2.heap.size, pr (x + y)] (by kernel_rfl) (by kernel_rfl) ?ob24 ?done24
          case ob24 =>
            refine And.intro (ob_fieldAddr rfl (wt_none rfl) (ev_far rfl rfl) (fun _ => by kernel_rfl) (fun _ => rfl)) ?_
            refine And.intro (ob_load rfl (wt_none rfl) (ev_dep (j := 0) (by kernel_rfl) rfl rfl) (fun w2 hb => run_load1 Tryz.underlying4 rfl ((B0.drew.below hb).cell 0)) (fun _ _ => rfl)) ?_
            refine And.intro (ob_fieldAddr rfl (wt_none rfl) (ev_far rfl rfl) (fun _ => by kernel_rfl) (fun _ => rfl)) ?_
            refine And.intro (ob_load rfl (wt_none rfl) (ev_dep (j := 2) (by kernel_rfl) rfl rfl) (fun w2 hb => run_load1 Tryz.underlying30 rfl ((B0.drew.below hb).cell 1)) (fun _ _ => rfl)) ?_
            refine And.intro (ob_fieldAddr rfl (wt_none rfl) (ev_far rfl rfl) (fun _ => by kernel_rfl) (fun _ => rfl)) ?_
            refine And.intro (ob_load rfl (wt_none rfl) (ev_dep (j := 4) (by kernel_rfl) rfl rfl) (fun w2 hb => run_load1 Tryz.underlying30 rfl ((B1.drew.below hb).cell 1)) (fun _ _ => rfl)) ?_
            refine And.intro (ob_call2 rfl Tryz.func80 (by kernel_rfl) (wt_none rfl) (ev_dep (j := 3) (by kernel_rfl) rfl rfl) (ev_dep (j := 5) (by kernel_rfl) rfl rfl) (fun w2 u0 u1 hb h0 h1 => by obtain rfl := h0; obtain rfl := h1; exact (refSub_any _ _ _ _ _ (k0s.drew.below hb) (k1s.drew.below hb) HL.out HLE.out _ rfl).mono fun e w3 h => RetS.pd h hb.size)) ?_
            refine And.intro (ob_call2 rfl Tryz.func66 (by kernel_rfl) (wt_none rfl) (ev_dep (j := 1) (by kernel_rfl) rfl rfl) (ev_dep (j := 6) (by kernel_rfl) rfl rfl) (fun w2 u0 u1 hb h0 h1 => by obtain rfl := h0; exact made_pd _ _ _ (x + y) _ h1.1 HZ.out)) ?_
            trivial
          case done24 =>
            refine fun w3 hb3 v0 h0 v1 h1 v2 h2 v3 h3 v4 h4 v5 h5 v6 h6 v7 h7 b hbf => ?_
            obtain rfl := h0; obtain rfl := h1; obtain rfl := h2; obtain rfl := h3; obtain rfl := h4; obtain rfl := h5
            obtain ⟨q6, f6⟩ := h6
            have q7 := h7
            simp only [Act.put, List.setIfInBounds_toArray, List.set_cons_zero, List.set_cons_succ] at hbf
            subst hbf
            obtain ⟨u7, rfl, q7⟩ := q7
            obtain ⟨A9, c9, rfl, _⟩ := id q7
            have B9 := B2.below hb3
            refine any_store (i := 8) (by kernel_rfl) rfl rfl rfl rfl rfl rfl (cells := [.bool (ngB (x + y)), .slice A9 (digs 10000 (x + y).natAbs).length c9]) rfl B9 rfl (by kernel_rfl) (one2 rfl rfl) fun w9 hg9 BB9 => ?_
            have k9 := off q7 B9 no_ints2 hg9
            have bb9 := ((bb.trans (hb3.mono bb.size)).trans ((Below.refl _ _).grown hg9 (Nat.le_trans bb.size hb3.size) (fun g hg => by injection hg with hg; omega)))
            obtain ⟨c0, c1, _, _⟩ := Blk.two BB9
            refine any_done (by kernel_rfl) ?_
            go_wp2
            exact bodyPost_ret (v := .agg #[.bool (ngB (x + y)), .slice A9 (digs 10000 (x + y).natAbs).length c9]) (by simp [results, Tryz.results47, go_sem, c0, c1]) rfl ⟨_, rfl, isR_mk k9 rfl rfl, bb9⟩
    · have HZ : Hid (sg false (y.natAbs - x.natAbs) = x + y) := by show _ = _; have := ngB_true hs0; have := ngB_false hs1; rw [sg_false]; omega
      have HO : Hid (¬ (0 : Int) ≤ ord x.natAbs y.natAbs) := by show ¬ _; have := ord_neg x.natAbs y.natAbs; have h3 := @ord_le0 y.natAbs x.natAbs; have h4 := @ord_lt0 x.natAbs y.natAbs; omega
      have HLE : Hid (x.natAbs ≤ y.natAbs) := by show _ ≤ _; omega
      clear hle
      go_enter Tryz.func47, Tryz.ntmps47
      go_upto_region 1 with (fail)
      obtain ⟨wx, hwx, bb, B0, B1, B2, hsz⟩ := vars3 w 32 32 32 #[.bool true, .slice A0 (digs 10000 (x).natAbs).length c0] #[.bool false, .slice A1 (digs 10000 (y).natAbs).length c1] #[.bool false, .slice none 0 0]
      rw [hwx]
      clear hwx
      have k0s := s0.below bb
      have k0 : IsR wx (.agg #[.bool true, .slice A0 (digs 10000 (x).natAbs).length c0]) (x) := isR_mk k0s rfl hs0.symm
      have k1s := s1.below bb
      have k1 : IsR wx (.agg #[.bool false, .slice A1 (digs 10000 (y).natAbs).length c1]) (y) := isR_mk k1s rfl hs1.symm
      have hszb := bb.size
      refine flowp 5 [Pd.eq (.pointer (some ⟨w.heap.size, 0, none⟩)), Pd.eq (.bool true), Pd.eq (.pointer (some ⟨w.heap.size + 1, 0, none⟩)), Pd.eq (.bool false), Pd.eq (.bool false)] (by kernel_rfl) ?ob25 ?done25
      case ob25 =>
        refine And.intro (ob_fieldAddr rfl (wt_none rfl) (ev_far rfl rfl) (fun _ => by kernel_rfl) (fun _ => rfl)) ?_
        refine And.intro (ob_load rfl (wt_none rfl) (ev_dep (j := 0) (by kernel_rfl) rfl rfl) (fun w2 hb => run_load1 Tryz.underlying4 rfl ((B0.below hb).cell 0)) (fun _ _ => rfl)) ?_
        refine And.intro (ob_fieldAddr rfl (wt_none rfl) (ev_far rfl rfl) (fun _ => by kernel_rfl) (fun _ => rfl)) ?_
        refine And.intro (ob_load rfl (wt_none rfl) (ev_dep (j := 2) (by kernel_rfl) rfl rfl) (fun w2 hb => run_load1 Tryz.underlying4 rfl ((B1.below hb).cell 0)) (fun _ _ => rfl)) ?_
        refine And.intro (ob_bin rfl (wt_none rfl) (ev_dep (j := 1) (by kernel_rfl) rfl rfl) (ev_dep (j := 3) (by kernel_rfl) rfl rfl) (fun _ _ _ hx hy => ⟨.bool (true == false), by rw [hx, hy]; exact bin_eql_bool _ _ _ _ Tryz.underlying4 _, rfl⟩)) ?_
        trivial
      case done25 =>
        refine fun w1 hb1 v0 h0 v1 h1 v2 h2 v3 h3 v4 h4 b hbf => ?_
        obtain rfl := h0; obtain rfl := h1; obtain rfl := h2; obtain rfl := h3; obtain rfl := h4
        simp only [Act.put, List.setIfInBounds_toArray, List.set_cons_zero, List.set_cons_succ] at hbf
        subst hbf
        replace B0 := B0.below hb1
        replace B1 := B1.below hb1
        replace B2 := B2.below hb1
        replace k0s := k0s.below hb1
        replace k1s := k1s.below hb1
        replace k0 := k0.below hb1
        replace k1 := k1.below hb1
        replace bb := bb.trans (hb1.mono bb.size)
        have hszb := bb.size
        obtain ⟨x00, x01, y00, y01⟩ := Blk.two B0
        obtain ⟨x10, x11, y10, y11⟩ := Blk.two B1
        obtain ⟨x20, x21, y20, y21⟩ := Blk.two B2
        refine ops_done ?_
        go_upto_region 3 with (fail)
        refine flowp 6 [Pd.eq (.pointer (some ⟨w.heap.size, 1, none⟩)), Pd.eq (.slice A0 (digs 10000 (x).natAbs).length c0), Pd.eq (.pointer (some ⟨w.heap.size + 1, 1, none⟩)), Pd.eq (.slice A1 (digs 10000 (y).natAbs).length c1), Pd.eq (.int .i64 (ord x.natAbs y.natAbs)), Pd.eq (.bool false)] (by kernel_rfl) ?ob26 ?done26
        case ob26 =>
          refine And.intro (ob_fieldAddr rfl (wt_none rfl) (ev_far rfl rfl) (fun _ => by kernel_rfl) (fun _ => rfl)) ?_
          refine And.intro (ob_load rfl (wt_none rfl) (ev_dep (j := 0) (by kernel_rfl) rfl rfl) (fun w2 hb => run_load1 Tryz.underlying30 rfl ((B0.below hb).cell 1)) (fun _ _ => rfl)) ?_
          refine And.intro (ob_fieldAddr rfl (wt_none rfl) (ev_far rfl rfl) (fun _ => by kernel_rfl) (fun _ => rfl)) ?_
          refine And.intro (ob_load rfl (wt_none rfl) (ev_dep (j := 2) (by kernel_rfl) rfl rfl) (fun w2 hb => run_load1 Tryz.underlying30 rfl ((B1.below hb).cell 1)) (fun _ _ => rfl)) ?_
          refine And.intro (ob_call2 rfl Tryz.func79 (by kernel_rfl) (wt_none rfl) (ev_dep (j := 1) (by kernel_rfl) rfl rfl) (ev_dep (j := 3) (by kernel_rfl) rfl rfl) (fun w2 u0 u1 hb h0 h1 => by obtain rfl := h0; obtain rfl := h1; exact (refCmp_at _ _ _ _ _ _ (k0s.below hb) (k1s.below hb) rfl).mono fun e w3 h => RetV.pd h)) ?_
          refine And.intro (ob_bin rfl (wt_none rfl) (ev_dep (j := 4) (by kernel_rfl) rfl rfl) (ev_const _) (fun _ _ _ hx hy => ⟨_, by rw [hx, hy]; exact bin_geq_int _ _ _ _ _, congrArg Value.bool (decide_eq_false HO.out)⟩)) ?_
          trivial
        case done26 =>
          refine fun w2 hb2 v0 h0 v1 h1 v2 h2 v3 h3 v4 h4 v5 h5 b hbf => ?_
          obtain rfl := h0; obtain rfl := h1; obtain rfl := h2; obtain rfl := h3; obtain rfl := h4; obtain rfl := h5
          simp only [Act.put, List.setIfInBounds_toArray, List.set_cons_zero, List.set_cons_succ] at hbf
          subst hbf
          replace B0 := B0.below hb2
          replace B1 := B1.below hb2
          replace B2 := B2.below hb2
          replace k0s := k0s.below hb2
          replace k1s := k1s.below hb2
          replace k0 := k0.below hb2
          replace k1 := k1.below hb2
          replace bb := bb.trans (hb2.mono bb.size)
          have hszb := bb.size
          obtain ⟨x00, x01, y00, y01⟩ := Blk.two B0
          obtain ⟨x10, x11, y10, y11⟩ := Blk.two B1
          obtain ⟨x20, x21, y20, y21⟩ := Blk.two B2
          refine ops_done ?_
          go_upto_region 5 with (fail)
          refine flow 8 [Pd.eq (.pointer (some ⟨w.heap.size + 1, 0, none⟩)), Pd.eq (.bool false), Pd.eq (.pointer (some ⟨w.heap.size + 1, 1, none⟩)), Pd.eq (.slice A1 (digs 10000 (y).natAbs).length c1), Pd.eq (.pointer (some ⟨w.heap.size, 1, none⟩)), Pd.eq (.slice A0 (digs 10000 (x).natAbs).length c0), ps .i64 (digs 10000 (y.natAbs - x.natAbs)) w2.heap.size, pr (x + y)] (by kernel_rfl) (by kernel_rfl) ?ob27 ?done27
          case ob27 =>
            refine And.intro (ob_fieldAddr rfl (wt_none rfl) (ev_far rfl rfl) (fun _ => by kernel_rfl) (fun _ => rfl)) ?_
            refine And.intro (ob_load rfl (wt_none rfl) (ev_dep (j := 0) (by kernel_rfl) rfl rfl) (fun w2 hb => run_load1 Tryz.underlying4 rfl ((B1.drew.below hb).cell 0)) (fun _ _ => rfl)) ?_
            refine And.intro (ob_fieldAddr rfl (wt_none rfl) (ev_far rfl rfl) (fun _ => by kernel_rfl) (fun _ => rfl)) ?_
            refine And.intro (ob_load rfl (wt_none rfl) (ev_dep (j := 2) (by kernel_rfl) rfl rfl) (fun w2 hb => run_load1 Tryz.underlying30 rfl ((B1.drew.below hb).cell 1)) (fun _ _ => rfl)) ?_
            refine And.intro (ob_fieldAddr rfl (wt_none rfl) (ev_far rfl rfl) (fun _ => by kernel_rfl) (fun _ => rfl)) ?_
            refine And.intro (ob_load rfl (wt_none rfl) (ev_dep (j := 4) (by kernel_rfl) rfl rfl) (fun w2 hb => run_load1 Tryz.underlying30 rfl ((B0.drew.below hb).cell 1)) (fun _ _ => rfl)) ?_
            refine And.intro (ob_call2 rfl Tryz.func80 (by kernel_rfl) (wt_none rfl) (ev_dep (j := 3) (by kernel_rfl) rfl rfl) (ev_dep (j := 5) (by kernel_rfl) rfl rfl) (fun w2 u0 u1 hb h0 h1 => by obtain rfl := h0; obtain rfl := h1; exact (refSub_any _ _ _ _ _ (k1s.drew.below hb) (k0s.drew.below hb) HL2.out HLE.out _ rfl).mono fun e w3 h => RetS.pd h hb.size)) ?_
            refine And.intro (ob_call2 rfl Tryz.func66 (by kernel_rfl) (wt_none rfl) (ev_dep (j := 1) (by kernel_rfl) rfl rfl) (ev_dep (j := 6) (by kernel_rfl) rfl rfl) (fun w2 u0 u1 hb h0 h1 => by obtain rfl := h0; exact made_pd _ _ _ (x + y) _ h1.1 HZ.out)) ?_
            trivial
          case done27 =>
            refine fun w3 hb3 v0 h0 v1 h1 v2 h2 v3 h3 v4 h4 v5 h5 v6 h6 v7 h7 b hbf => ?_
            obtain rfl := h0; obtain rfl := h1; obtain rfl := h2; obtain rfl := h3; obtain rfl := h4; obtain rfl := h5
            obtain ⟨q6, f6⟩ := h6
            have q7 := h7
            simp only [Act.put, List.setIfInBounds_toArray, List.set_cons_zero, List.set_cons_succ] at hbf
            subst hbf
            obtain ⟨u7, rfl, q7⟩ := q7
            obtain ⟨A9, c9, rfl, _⟩ := id q7
            have B9 := B2.below hb3
            refine any_store (i := 8) (by kernel_rfl) rfl rfl rfl rfl rfl rfl (cells := [.bool (ngB (x + y)), .slice A9 (digs 10000 (x + y).natAbs).length c9]) rfl B9 rfl (by kernel_rfl) (one2 rfl rfl) fun w9 hg9 BB9 => ?_
            have k9 := off q7 B9 no_ints2 hg9
            have bb9 := ((bb.trans (hb3.mono bb.size)).trans ((Below.refl _ _).grown hg9 (Nat.le_trans bb.size hb3.size) (fun g hg => by injection hg with hg; omega)))
            obtain ⟨c0, c1, _, _⟩ := Blk.two BB9
            refine any_done (by kernel_rfl) ?_
            go_wp2
            exact bodyPost_ret (v := .agg #[.bool (ngB (x + y)), .slice A9 (digs 10000 (x + y).natAbs).length c9]) (by simp [results, Tryz.results47, go_sem, c0, c1]) rfl ⟨_, rfl, isR_mk k9 rfl rfl, bb9⟩
  · have HZ : Hid (sg true (x.natAbs + y.natAbs) = x + y) := by show _ = _; have := ngB_true hs0; have := ngB_true hs1; rw [sg_true]; omega
    go_enter Tryz.func47, Tryz.ntmps47
    go_upto_region 1 with (fail)
    obtain ⟨wx, hwx, bb, B0, B1, B2, hsz⟩ := vars3 w 32 32 32 #[.bool true, .slice A0 (digs 10000 (x).natAbs).length c0] #[.bool true, .slice A1 (digs 10000 (y).natAbs).length c1] #[.bool false, .slice none 0 0]
    rw [hwx]
    clear hwx
    have k0s := s0.below bb
    have k0 : IsR wx (.agg #[.bool true, .slice A0 (digs 10000 (x).natAbs).length c0]) (x) := isR_mk k0s rfl hs0.symm
    have k1s := s1.below bb
    have k1 : IsR wx (.agg #[.bool true, .slice A1 (digs 10000 (y).natAbs).length c1]) (y) := isR_mk k1s rfl hs1.symm
    have hszb := bb.size
    refine flowp 5 [Pd.eq (.pointer (some ⟨w.heap.size, 0, none⟩)), Pd.eq (.bool true), Pd.eq (.pointer (some ⟨w.heap.size + 1, 0, none⟩)), Pd.eq (.bool true), Pd.eq (.bool true)] (by kernel_rfl) ?ob28 ?done28
    case ob28 =>
      refine And.intro (ob_fieldAddr rfl (wt_none rfl) (ev_far rfl rfl) (fun _ => by kernel_rfl) (fun _ => rfl)) ?_
      refine And.intro (ob_load rfl (wt_none rfl) (ev_dep (j := 0) (by kernel_rfl) rfl rfl) (fun w2 hb => run_load1 Tryz.underlying4 rfl ((B0.below hb).cell 0)) (fun _ _ => rfl)) ?_
      refine And.intro (ob_fieldAddr rfl (wt_none rfl) (ev_far rfl rfl) (fun _ => by kernel_rfl) (fun _ => rfl)) ?_
      refine And.intro (ob_load rfl (wt_none rfl) (ev_dep (j := 2) (by kernel_rfl) rfl rfl) (fun w2 hb => run_load1 Tryz.underlying4 rfl ((B1.below hb).cell 0)) (fun _ _ => rfl)) ?_
      refine And.intro (ob_bin rfl (wt_none rfl) (ev_dep (j := 1) (by kernel_rfl) rfl rfl) (ev_dep (j := 3) (by kernel_rfl) rfl rfl) (fun _ _ _ hx hy => ⟨.bool (true == true), by rw [hx, hy]; exact bin_eql_bool _ _ _ _ Tryz.underlying4 _, rfl⟩)) ?_
      trivial
    case done28 =>
      refine fun w1 hb1 v0 h0 v1 h1 v2 h2 v3 h3 v4 h4 b hbf => ?_
      obtain rfl := h0; obtain rfl := h1; obtain rfl := h2; obtain rfl := h3; obtain rfl := h4
      simp only [Act.put, List.setIfInBounds_toArray, List.set_cons_zero, List.set_cons_succ] at hbf
      subst hbf
      replace B0 := B0.below hb1
      replace B1 := B1.below hb1
      replace B2 := B2.below hb1
      replace k0s := k0s.below hb1
      replace k1s := k1s.below hb1
      replace k0 := k0.below hb1
      replace k1 := k1.below hb1
      replace bb := bb.trans (hb1.mono bb.size)
      have hszb := bb.size
      obtain ⟨x00, x01, y00, y01⟩ := Blk.two B0
      obtain ⟨x10, x11, y10, y11⟩ := Blk.two B1
      obtain ⟨x20, x21, y20, y21⟩ := Blk.two B2
      refine ops_done ?_
      go_upto_region 2 with (fail)
      refine flow 8 [Pd.eq (.pointer (some ⟨w.heap.size, 0, none⟩)), Pd.eq (.bool true), Pd.eq (.pointer (some ⟨w.heap.size, 1, none⟩)), Pd.eq (.slice A0 (digs 10000 (x).natAbs).length c0), Pd.eq (.pointer (some ⟨w.heap.size + 1, 1, none⟩)), Pd.eq (.slice A1 (digs 10000 (y).natAbs).length c1), ps .i64 (digs 10000 (x.natAbs + y.natAbs)) w1.heap.size, pr (x + y)] (by kernel_rfl) (by kernel_rfl) ?ob29 ?done29
      case ob29 =>
        refine And.intro (ob_fieldAddr rfl (wt_none rfl) (ev_far rfl rfl) (fun _ => by kernel_rfl) (fun _ => rfl)) ?_
        refine And.intro (ob_load rfl (wt_none rfl) (ev_dep (j := 0) (by kernel_rfl) rfl rfl) (fun w2 hb => run_load1 Tryz.underlying4 rfl ((B0.drew.below hb).cell 0)) (fun _ _ => rfl)) ?_
        refine And.intro (ob_fieldAddr rfl (wt_none rfl) (ev_far rfl rfl) (fun _ => by kernel_rfl) (fun _ => rfl)) ?_
        refine And.intro (ob_load rfl (wt_none rfl) (ev_dep (j := 2) (by kernel_rfl) rfl rfl) (fun w2 hb => run_load1 Tryz.underlying30 rfl ((B0.drew.below hb).cell 1)) (fun _ _ => rfl)) ?_
        refine And.intro (ob_fieldAddr rfl (wt_none rfl) (ev_far rfl rfl) (fun _ => by kernel_rfl) (fun _ => rfl)) ?_
        refine And.intro (ob_load rfl (wt_none rfl) (ev_dep (j := 4) (by kernel_rfl) rfl rfl) (fun w2 hb => run_load1 Tryz.underlying30 rfl ((B1.drew.below hb).cell 1)) (fun _ _ => rfl)) ?_
        refine And.intro (ob_call2 rfl Tryz.func78 (by kernel_rfl) (wt_none rfl) (ev_dep (j := 3) (by kernel_rfl) rfl rfl) (ev_dep (j := 5) (by kernel_rfl) rfl rfl) (fun w2 u0 u1 hb h0 h1 => by obtain rfl := h0; obtain rfl := h1; exact (refAdd_any _ _ _ _ _ (k0s.drew.below hb) (k1s.drew.below hb) HL.out HL2.out).mono fun e w3 h => RetS.pd h hb.size)) ?_
        refine And.intro (ob_call2 rfl Tryz.func66 (by kernel_rfl) (wt_none rfl) (ev_dep (j := 1) (by kernel_rfl) rfl rfl) (ev_dep (j := 6) (by kernel_rfl) rfl rfl) (fun w2 u0 u1 hb h0 h1 => by obtain rfl := h0; exact made_pd _ _ _ (x + y) _ h1.1 HZ.out)) ?_
        trivial
      case done29 =>
        refine fun w2 hb2 v0 h0 v1 h1 v2 h2 v3 h3 v4 h4 v5 h5 v6 h6 v7 h7 b hbf => ?_
        obtain rfl := h0; obtain rfl := h1; obtain rfl := h2; obtain rfl := h3; obtain rfl := h4; obtain rfl := h5
        obtain ⟨q6, f6⟩ := h6
        have q7 := h7
        simp only [Act.put, List.setIfInBounds_toArray, List.set_cons_zero, List.set_cons_succ] at hbf
        subst hbf
        obtain ⟨u7, rfl, q7⟩ := q7
        obtain ⟨A9, c9, rfl, _⟩ := id q7
        have B9 := B2.below hb2
        refine any_store (i := 8) (by kernel_rfl) rfl rfl rfl rfl rfl rfl (cells := [.bool (ngB (x + y)), .slice A9 (digs 10000 (x + y).natAbs).length c9]) rfl B9 rfl (by kernel_rfl) (one2 rfl rfl) fun w9 hg9 BB9 => ?_
        have k9 := off q7 B9 no_ints2 hg9
        have bb9 := ((bb.trans (hb2.mono bb.size)).trans ((Below.refl _ _).grown hg9 (Nat.le_trans bb.size hb2.size) (fun g hg => by injection hg with hg; omega)))
        obtain ⟨c0, c1, _, _⟩ := Blk.two BB9
        refine any_done (by kernel_rfl) ?_
        go_wp2
        exact bodyPost_ret (v := .agg #[.bool (ngB (x + y)), .slice A9 (digs 10000 (x + y).natAbs).length c9]) (by simp [results, Tryz.results47, go_sem, c0, c1]) rfl ⟨_, rfl, isR_mk k9 rfl rfl, bb9⟩

end Go.Proofs.YtbebmknfecehnaaGreat.whl
