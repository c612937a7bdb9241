/- Package whole and the document's whole numbers: the calls. Condition: as each says. -/
import Derived.Test.YtbebmknfecehnaaWhlC
import Derived.Deep.Cut
namespace Go.Proofs.Ytbebmknfecehnaa.whl
open Go.RowKit Go.Proofs.Ytbebmknfecehnaa.num Go.Proofs.Ytbebmknfecehnaa.mem Go.Proofs.Ytbebmknfecehnaa.nat Go.Proofs.Ytbebmknfecehnaa.txt Go.Proofs.Ytbebmknfecehnaa.str Go.Proofs.Ytbebmknfecehnaa.flow
set_option linter.unusedVariables false
theorem sg_neg (x : Int) : sg (!(ngB x)) x.natAbs = -x := by
  conv => rhs; rw [← sg_self x]
  cases ngB x <;> simp [sg]
theorem signed_pd (b : Bool) (u : Value) (x : Nat) (z : Int) (w : World) {B : Nat} (h : IsS w .u64 u (digs 4294967296 x)) (hf : Fresh B u) (hz : sg b x = z) : Calls Try.prog 36 #[.bool b, u] w (RetPd (pz z B) w) :=
  (signed_any b u x w h).mono fun e w' h' => ⟨_, h'.1, ⟨isZ_mk (h.below h'.2) (by rw [← hz, sg_abs]) (by rw [hz]), freshZ_mk hf⟩, h'.2⟩
theorem signed_pi (b : Bool) (u : Value) (x : Nat) (z : Int) (w : World) (h : IsS w .u64 u (digs 4294967296 x)) (hz : sg b x = z) : Calls Try.prog 36 #[.bool b, u] w (RetPd (pi z) w) :=
  (signed_any b u x w h).mono fun e w' h' => ⟨_, h'.1, isZ_mk (h.below h'.2) (by rw [← hz, sg_abs]) (by rw [hz]), h'.2⟩
theorem made_pd (b : Bool) (u : Value) (x : Nat) (z : Int) (w : World) (h : IsS w .i64 u (digs 10000 x)) (hz : sg b x = z) : Calls Try.prog 24 #[.bool b, u] w (RetPd (pr z) w) :=
  (rmade_any b u x w h).mono fun e w' h' => ⟨_, h'.1, isR_mk (h.below h'.2) (by rw [← hz, sg_abs]) (by rw [hz]), h'.2⟩
theorem vars2 (w : World) (t1 t2 : TypeId) (x y : Array Value) : ∃ wx, (w.alloc (.cells x t1)).alloc (.cells y t2) = wx ∧ Below w.heap.size w wx ∧ Blk wx w.heap.size t1 x ∧ Blk wx (w.heap.size + 1) t2 y ∧ w.heap.size + 1 < wx.heap.size := by
  refine ⟨_, rfl, (below_alloc (Nat.le_refl _) _).alloc (by simp) _, (Blk.new w t1 x).alloc _, ?_, by simp⟩
  have := Blk.new (w.alloc (.cells x t1)) t2 y
  simpa using this

set_option maxHeartbeats 1600000 in
set_option maxRecDepth 100000 in
theorem zneg_any (a0 : Value) (x : Int) (w : World) (h0 : IsZ w a0 x) (hl : lenZ x ≤ 100000) :
    Calls Try.prog 23 #[a0] w (RetZ (-x) w) := by
  obtain ⟨u0, rfl, s0⟩ := h0
  obtain ⟨A0, c0, rfl, _⟩ := id s0
  have HZ : Hid (sg (!(ngB x)) x.natAbs = -x) := by show _ = _; exact sg_neg x
  have HL : Hid ((digs 4294967296 x.natAbs).length ≤ 1000000) := by show _ ≤ _; unfold lenZ at hl; omega
  go_enter Try.func23, Try.ntmps23
  go_upto_region 1 with (fail)
  obtain ⟨wx, hwx, bb, B0, B1, hsz⟩ := vars2 w 25 25 #[.bool (ngB x), .slice A0 (digs 4294967296 (x).natAbs).length c0] #[.bool false, .slice none 0 0]
  rw [hwx]
  clear hwx
  have k0s := s0.below bb
  have k0 : IsZ wx (.agg #[.bool (ngB x), .slice A0 (digs 4294967296 (x).natAbs).length c0]) (x) := isZ_mk k0s rfl rfl
  have hszb := bb.size
  refine flowp 6 [Pd.eq (.pointer (some ⟨w.heap.size, 0, none⟩)), Pd.eq (.bool (ngB x)), Pd.eq (.bool (!(ngB x))), Pd.eq (.pointer (some ⟨w.heap.size, 1, none⟩)), Pd.eq (.slice A0 (digs 4294967296 (x).natAbs).length c0), pz (-x) wx.heap.size] (by kernel_rfl) ?ob1 ?done1
  case ob1 =>
    refine And.intro (ob_fieldAddr rfl (wt_none rfl) (ev_far rfl rfl) (fun _ => by kernel_rfl) (fun _ => rfl)) ?_
    refine And.intro (ob_load rfl (wt_none rfl) (ev_dep (j := 0) (by kernel_rfl) rfl rfl) (fun w2 hb => run_load1 Try.underlying4 rfl ((B0.below hb).cell 0)) (fun _ _ => rfl)) ?_
    refine And.intro (ob_un rfl (wt_none rfl) (ev_dep (j := 1) (by kernel_rfl) rfl rfl) (fun _ => un_not _ _) (fun _ => rfl)) ?_
    refine And.intro (ob_fieldAddr rfl (wt_none rfl) (ev_far rfl rfl) (fun _ => by kernel_rfl) (fun _ => rfl)) ?_
    refine And.intro (ob_load rfl (wt_none rfl) (ev_dep (j := 3) (by kernel_rfl) rfl rfl) (fun w2 hb => run_load1 Try.underlying23 rfl ((B0.below hb).cell 1)) (fun _ _ => rfl)) ?_
    refine And.intro (ob_call2 rfl Try.func45 (by kernel_rfl) (wt_none rfl) (ev_dep (j := 2) (by kernel_rfl) rfl rfl) (ev_dep (j := 4) (by kernel_rfl) rfl rfl) (fun w2 u0 u1 hb h0 h1 => by obtain rfl := h0; obtain rfl := h1; exact (made_any _ _ _ (-x) _ (k0s.below hb) HL.out HZ.out.symm).mono fun e w3 h => RetZ.pd h hb.size)) ?_
    trivial
  case done1 =>
    refine fun w1 hb1 v0 h0 v1 h1 v2 h2 v3 h3 v4 h4 v5 h5 b hbf => ?_
    obtain rfl := h0; obtain rfl := h1; obtain rfl := h2; obtain rfl := h3; obtain rfl := h4
    obtain ⟨q5, f5⟩ := h5
    simp only [Act.put, List.setIfInBounds_toArray, List.set_cons_zero, List.set_cons_succ] at hbf
    subst hbf
    obtain ⟨u5, rfl, q5⟩ := q5
    obtain ⟨A9, c9, rfl, _⟩ := id q5
    have B9 := B1.below hb1
    refine ops_store (i := 6) rfl rfl rfl rfl rfl rfl (cells := [.bool (ngB (-x)), .slice A9 (digs 4294967296 (-x).natAbs).length c9]) rfl B9 rfl (by kernel_rfl) (one2 rfl rfl) fun w9 hg9 BB9 => ?_
    have k9 := off q5 B9 no_ints2 hg9
    have f9 := (f5 _ _ rfl).mono (show w.heap.size ≤ wx.heap.size from bb.size)
    have bb9 := ((bb.trans (hb1.mono bb.size)).trans ((Below.refl _ _).grown hg9 (Nat.le_trans bb.size hb1.size) (fun g hg => by injection hg with hg; omega)))
    obtain ⟨c0, c1, _, _⟩ := Blk.two BB9
    refine ops_done ?_
    go_wp2
    exact bodyPost_ret (v := .agg #[.bool (ngB (-x)), .slice A9 (digs 4294967296 (-x).natAbs).length c9]) (by simp [results, Try.results23, go_sem, c0, c1]) rfl ⟨_, rfl, isZ_mk k9 rfl rfl, freshZ_mk f9, bb9⟩

set_option maxHeartbeats 1600000 in
set_option maxRecDepth 100000 in
theorem rneg_any (a0 : Value) (x : Int) (w : World) (h0 : IsR w a0 x)  :
    Calls Try.prog 9 #[a0] w (RetR (-x) w) := by
  obtain ⟨u0, rfl, s0⟩ := h0
  obtain ⟨A0, c0, rfl, _⟩ := id s0
  have HZ : Hid (sg (!(ngB x)) x.natAbs = -x) := by show _ = _; exact sg_neg x
  go_enter Try.func9, Try.ntmps9
  go_upto_region 1 with (fail)
  obtain ⟨wx, hwx, bb, B0, B1, hsz⟩ := vars2 w 36 36 #[.bool (ngB x), .slice A0 (digs 10000 (x).natAbs).length c0] #[.bool false, .slice none 0 0]
  rw [hwx]
  clear hwx
  have k0s := s0.below bb
  have k0 : IsR wx (.agg #[.bool (ngB x), .slice A0 (digs 10000 (x).natAbs).length c0]) (x) := isR_mk k0s rfl rfl
  have hszb := bb.size
  refine flowp 6 [Pd.eq (.pointer (some ⟨w.heap.size, 0, none⟩)), Pd.eq (.bool (ngB x)), Pd.eq (.bool (!(ngB x))), Pd.eq (.pointer (some ⟨w.heap.size, 1, none⟩)), Pd.eq (.slice A0 (digs 10000 (x).natAbs).length c0), pr (-x)] (by kernel_rfl) ?ob2 ?done2
  case ob2 =>
    refine And.intro (ob_fieldAddr rfl (wt_none rfl) (ev_far rfl rfl) (fun _ => by kernel_rfl) (fun _ => rfl)) ?_
    refine And.intro (ob_load rfl (wt_none rfl) (ev_dep (j := 0) (by kernel_rfl) rfl rfl) (fun w2 hb => run_load1 Try.underlying4 rfl ((B0.below hb).cell 0)) (fun _ _ => rfl)) ?_
    refine And.intro (ob_un rfl (wt_none rfl) (ev_dep (j := 1) (by kernel_rfl) rfl rfl) (fun _ => un_not _ _) (fun _ => rfl)) ?_
    refine And.intro (ob_fieldAddr rfl (wt_none rfl) (ev_far rfl rfl) (fun _ => by kernel_rfl) (fun _ => rfl)) ?_
    refine And.intro (ob_load rfl (wt_none rfl) (ev_dep (j := 3) (by kernel_rfl) rfl rfl) (fun w2 hb => run_load1 Try.underlying34 rfl ((B0.below hb).cell 1)) (fun _ _ => rfl)) ?_
    refine And.intro (ob_call2 rfl Try.func24 (by kernel_rfl) (wt_none rfl) (ev_dep (j := 2) (by kernel_rfl) rfl rfl) (ev_dep (j := 4) (by kernel_rfl) rfl rfl) (fun w2 u0 u1 hb h0 h1 => by obtain rfl := h0; obtain rfl := h1; exact made_pd _ _ _ (-x) _ (k0s.below hb) HZ.out)) ?_
    trivial
  case done2 =>
    refine fun w1 hb1 v0 h0 v1 h1 v2 h2 v3 h3 v4 h4 v5 h5 b hbf => ?_
    obtain rfl := h0; obtain rfl := h1; obtain rfl := h2; obtain rfl := h3; obtain rfl := h4
    have q5 := h5
    simp only [Act.put, List.setIfInBounds_toArray, List.set_cons_zero, List.set_cons_succ] at hbf
    subst hbf
    obtain ⟨u5, rfl, q5⟩ := q5
    obtain ⟨A9, c9, rfl, _⟩ := id q5
    have B9 := B1.below hb1
    refine ops_store (i := 6) rfl rfl rfl rfl rfl rfl (cells := [.bool (ngB (-x)), .slice A9 (digs 10000 (-x).natAbs).length c9]) rfl B9 rfl (by kernel_rfl) (one2 rfl rfl) fun w9 hg9 BB9 => ?_
    have k9 := off q5 B9 no_ints2 hg9
    have bb9 := ((bb.trans (hb1.mono bb.size)).trans ((Below.refl _ _).grown hg9 (Nat.le_trans bb.size hb1.size) (fun g hg => by injection hg with hg; omega)))
    obtain ⟨c0, c1, _, _⟩ := Blk.two BB9
    refine ops_done ?_
    go_wp2
    exact bodyPost_ret (v := .agg #[.bool (ngB (-x)), .slice A9 (digs 10000 (-x).natAbs).length c9]) (by simp [results, Try.results9, go_sem, c0, c1]) rfl ⟨_, rfl, isR_mk k9 rfl rfl, bb9⟩

set_option maxHeartbeats 1600000 in
set_option maxRecDepth 100000 in
theorem rof_any (a0 : Value) (x : Int) (w : World) (h0 : IsZ w a0 x) (hl : lenZ x ≤ 30000) :
    Calls Try.prog 8 #[a0] w (RetR x w) := by
  obtain ⟨u0, rfl, s0⟩ := h0
  obtain ⟨A0, c0, rfl, _⟩ := id s0
  have HL : Hid ((digs 4294967296 x.natAbs).length ≤ 100000) := by show _ ≤ _; unfold lenZ at hl; omega
  have HZ : Hid (sg (ngB x) x.natAbs = x) := by show _ = _; exact sg_self x
  go_enter Try.func8, Try.ntmps8
  go_upto_region 1 with (fail)
  obtain ⟨wx, hwx, bb, B0, B1, hsz⟩ := vars2 w 25 36 #[.bool (ngB x), .slice A0 (digs 4294967296 (x).natAbs).length c0] #[.bool false, .slice none 0 0]
  rw [hwx]
  clear hwx
  have k0s := s0.below bb
  have k0 : IsZ wx (.agg #[.bool (ngB x), .slice A0 (digs 4294967296 (x).natAbs).length c0]) (x) := isZ_mk k0s rfl rfl
  have hszb := bb.size
  refine flow 6 [Pd.eq (.pointer (some ⟨w.heap.size, 0, none⟩)), Pd.eq (.bool (ngB x)), Pd.eq (.pointer (some ⟨w.heap.size, 1, none⟩)), Pd.eq (.slice A0 (digs 4294967296 (x).natAbs).length c0), ps .i64 (digs 10000 x.natAbs) wx.heap.size, pr (x)] (by kernel_rfl) (by kernel_rfl) ?ob3 ?done3
  case ob3 =>
    refine And.intro (ob_fieldAddr rfl (wt_none rfl) (ev_far rfl rfl) (fun _ => by kernel_rfl) (fun _ => rfl)) ?_
    refine And.intro (ob_load rfl (wt_none rfl) (ev_dep (j := 0) (by kernel_rfl) rfl rfl) (fun w2 hb => run_load1 Try.underlying4 rfl ((B0.drew.below hb).cell 0)) (fun _ _ => rfl)) ?_
    refine And.intro (ob_fieldAddr rfl (wt_none rfl) (ev_far rfl rfl) (fun _ => by kernel_rfl) (fun _ => rfl)) ?_
    refine And.intro (ob_load rfl (wt_none rfl) (ev_dep (j := 2) (by kernel_rfl) rfl rfl) (fun w2 hb => run_load1 Try.underlying23 rfl ((B0.drew.below hb).cell 1)) (fun _ _ => rfl)) ?_
    refine And.intro (ob_call1 rfl Try.func25 (by kernel_rfl) (wt_none rfl) (ev_dep (j := 3) (by kernel_rfl) rfl rfl) (fun w2 u0 hb h0 => by obtain rfl := h0; exact (refOf_any _ _ _ (k0s.drew.below hb) HL.out).mono fun e w3 h => RetS.pd h hb.size)) ?_
    refine And.intro (ob_call2 rfl Try.func24 (by kernel_rfl) (wt_none rfl) (ev_dep (j := 1) (by kernel_rfl) rfl rfl) (ev_dep (j := 4) (by kernel_rfl) rfl rfl) (fun w2 u0 u1 hb h0 h1 => by obtain rfl := h0; exact made_pd _ _ _ (x) _ h1.1 HZ.out)) ?_
    trivial
  case done3 =>
    refine fun w1 hb1 v0 h0 v1 h1 v2 h2 v3 h3 v4 h4 v5 h5 b hbf => ?_
    obtain rfl := h0; obtain rfl := h1; obtain rfl := h2; obtain rfl := h3
    obtain ⟨q4, f4⟩ := h4
    have q5 := h5
    simp only [Act.put, List.setIfInBounds_toArray, List.set_cons_zero, List.set_cons_succ] at hbf
    subst hbf
    obtain ⟨u5, rfl, q5⟩ := q5
    obtain ⟨A9, c9, rfl, _⟩ := id q5
    have B9 := B1.below hb1
    refine any_store (i := 6) (by kernel_rfl) rfl rfl rfl rfl rfl rfl (cells := [.bool (ngB (x)), .slice A9 (digs 10000 (x).natAbs).length c9]) rfl B9 rfl (by kernel_rfl) (one2 rfl rfl) fun w9 hg9 BB9 => ?_
    have k9 := off q5 B9 no_ints2 hg9
    have bb9 := ((bb.trans (hb1.mono bb.size)).trans ((Below.refl _ _).grown hg9 (Nat.le_trans bb.size hb1.size) (fun g hg => by injection hg with hg; omega)))
    obtain ⟨c0, c1, _, _⟩ := Blk.two BB9
    refine any_done (by kernel_rfl) ?_
    go_wp2
    exact bodyPost_ret (v := .agg #[.bool (ngB (x)), .slice A9 (digs 10000 (x).natAbs).length c9]) (by simp [results, Try.results8, go_sem, c0, c1]) rfl ⟨_, rfl, isR_mk k9 rfl rfl, bb9⟩

set_option maxHeartbeats 1600000 in
set_option maxRecDepth 100000 in
theorem rback_any (a0 : Value) (x : Int) (w : World) (h0 : IsR w a0 x) (hl : lenZ x ≤ 30000) :
    Calls Try.prog 26 #[a0] w (RetZ x w) := by
  obtain ⟨u0, rfl, s0⟩ := h0
  obtain ⟨A0, c0, rfl, _⟩ := id s0
  have HL : Hid ((digs 4294967296 x.natAbs).length ≤ 100000) := by show _ ≤ _; unfold lenZ at hl; omega
  have HM : Hid ((digs 10000 x.natAbs).length ≤ 100000) := by show _ ≤ _; have := lenZ_dec x; omega
  go_enter Try.func26, Try.ntmps26
  go_upto_region 1 with (fail)
  obtain ⟨wx, hwx, bb, B0, B1, hsz⟩ := vars2 w 36 25 #[.bool (ngB x), .slice A0 (digs 10000 (x).natAbs).length c0] #[.bool false, .slice none 0 0]
  rw [hwx]
  clear hwx
  have k0s := s0.below bb
  have k0 : IsR wx (.agg #[.bool (ngB x), .slice A0 (digs 10000 (x).natAbs).length c0]) (x) := isR_mk k0s rfl rfl
  have hszb := bb.size
  refine flow 6 [Pd.eq (.pointer (some ⟨w.heap.size, 0, none⟩)), Pd.eq (.bool (ngB x)), Pd.eq (.pointer (some ⟨w.heap.size, 1, none⟩)), Pd.eq (.slice A0 (digs 10000 (x).natAbs).length c0), ps .u64 (digs 4294967296 x.natAbs) wx.heap.size, pz (x) wx.heap.size] (by kernel_rfl) (by kernel_rfl) ?ob4 ?done4
  case ob4 =>
    refine And.intro (ob_fieldAddr rfl (wt_none rfl) (ev_far rfl rfl) (fun _ => by kernel_rfl) (fun _ => rfl)) ?_
    refine And.intro (ob_load rfl (wt_none rfl) (ev_dep (j := 0) (by kernel_rfl) rfl rfl) (fun w2 hb => run_load1 Try.underlying4 rfl ((B0.drew.below hb).cell 0)) (fun _ _ => rfl)) ?_
    refine And.intro (ob_fieldAddr rfl (wt_none rfl) (ev_far rfl rfl) (fun _ => by kernel_rfl) (fun _ => rfl)) ?_
    refine And.intro (ob_load rfl (wt_none rfl) (ev_dep (j := 2) (by kernel_rfl) rfl rfl) (fun w2 hb => run_load1 Try.underlying34 rfl ((B0.drew.below hb).cell 1)) (fun _ _ => rfl)) ?_
    refine And.intro (ob_call1 rfl Try.func27 (by kernel_rfl) (wt_none rfl) (ev_dep (j := 3) (by kernel_rfl) rfl rfl) (fun w2 u0 hb h0 => by obtain rfl := h0; exact (refBack_any _ _ _ (k0s.drew.below hb) HM.out HL.out).mono fun e w3 h => RetS.pd h hb.size)) ?_
    refine And.intro (ob_build2 rfl (wt_none rfl) (ev_dep (j := 1) (by kernel_rfl) rfl rfl) (ev_dep (j := 4) (by kernel_rfl) rfl rfl) (fun w2 u v hu hv => by subst hu; obtain ⟨A7, c7, rfl, _⟩ := id hv.1; exact ⟨.agg #[.bool (ngB x), .slice A7 (digs 4294967296 x.natAbs).length c7], by kernel_rfl, ⟨⟨_, rfl, hv.1⟩, freshZ_mk hv.2⟩⟩)) ?_
    trivial
  case done4 =>
    refine fun w1 hb1 v0 h0 v1 h1 v2 h2 v3 h3 v4 h4 v5 h5 b hbf => ?_
    obtain rfl := h0; obtain rfl := h1; obtain rfl := h2; obtain rfl := h3
    obtain ⟨q4, f4⟩ := h4
    obtain ⟨q5, f5⟩ := h5
    simp only [Act.put, List.setIfInBounds_toArray, List.set_cons_zero, List.set_cons_succ] at hbf
    subst hbf
    obtain ⟨u5, rfl, q5⟩ := q5
    obtain ⟨A9, c9, rfl, _⟩ := id q5
    have B9 := B1.below hb1
    refine any_store (i := 6) (by kernel_rfl) rfl rfl rfl rfl rfl rfl (cells := [.bool (ngB (x)), .slice A9 (digs 4294967296 (x).natAbs).length c9]) rfl B9 rfl (by kernel_rfl) (one2 rfl rfl) fun w9 hg9 BB9 => ?_
    have k9 := off q5 B9 no_ints2 hg9
    have f9 := (f5 _ _ rfl).mono (show w.heap.size ≤ wx.heap.size from bb.size)
    have bb9 := ((bb.trans (hb1.mono bb.size)).trans ((Below.refl _ _).grown hg9 (Nat.le_trans bb.size hb1.size) (fun g hg => by injection hg with hg; omega)))
    obtain ⟨c0, c1, _, _⟩ := Blk.two BB9
    refine any_done (by kernel_rfl) ?_
    go_wp2
    exact bodyPost_ret (v := .agg #[.bool (ngB (x)), .slice A9 (digs 4294967296 (x).natAbs).length c9]) (by simp [results, Try.results26, go_sem, c0, c1]) rfl ⟨_, rfl, isZ_mk k9 rfl rfl, freshZ_mk f9, bb9⟩

end Go.Proofs.Ytbebmknfecehnaa.whl
