/- Package whole and the document's whole numbers: the calls. Condition: as each says. -/
import Derived.Test.YtbebmknfecehnaaGreatWhlE
namespace Go.Proofs.YtbebmknfecehnaaGreat.whl
open Go.RowKit Go.Proofs.YtbebmknfecehnaaGreat.num Go.Proofs.YtbebmknfecehnaaGreat.mem Go.Proofs.YtbebmknfecehnaaGreat.nat Go.Proofs.YtbebmknfecehnaaGreat.txt Go.Proofs.YtbebmknfecehnaaGreat.str Go.Proofs.YtbebmknfecehnaaGreat.flow
set_option linter.unusedVariables false
theorem IsS.cast {w : World} {k : IntKind} {v : Value} {l m : List Nat} (h : IsS w k v l) (e : l = m) : IsS w k v m := e ▸ h
theorem exact_q {x y q : Int} (hy : y ≠ 0) (h : x = q * y) : x.natAbs % y.natAbs = 0 ∧ x.natAbs / y.natAbs = q.natAbs ∧ sg (!(ngB x == ngB y)) q.natAbs = q := by
  have e : x.natAbs = q.natAbs * y.natAbs := by rw [h, Int.natAbs_mul]
  have hp : 0 < y.natAbs := by omega
  refine ⟨by rw [e]; exact Nat.mul_mod_left _ _, by rw [e]; exact Nat.mul_div_cancel _ hp, ?_⟩
  by_cases hq : q = 0
  · subst hq
    cases (!(ngB x == ngB y)) <;> rfl
  · have hx : sg (!(ngB q == ngB y)) (q.natAbs * y.natAbs) = x := by rw [h]; exact sg_mul q y
    have hs : ngB x = (!(ngB q == ngB y)) := by rw [← hx]; exact ngB_sg_pos (Nat.mul_pos (by omega) hp)
    rw [hs]
    have h1 := sg_self q
    revert h1
    cases ngB q <;> cases ngB y <;> exact id
theorem zero_isZ (w : World) : IsZ w (.agg #[.bool false, .slice none 0 0]) 0 := ⟨_, rfl, by rw [Int.natAbs_zero, digs_zero]; exact isNil w .u64⟩
theorem zero_fresh (B : Nat) : FreshZ B (.agg #[.bool false, .slice none 0 0]) := freshZ_mk (fun ad n c e => by cases e)
theorem floor_same {x y : Int} (hy : y ≠ 0) (hs : ngB x = ngB y ∨ x.natAbs % y.natAbs = 0) : sg (!(ngB x == ngB y)) (x.natAbs / y.natAbs) = x.fdiv y ∧ sg (ngB y) (x.natAbs % y.natAbs) = x.fmod y := by
  have e := Nat.div_add_mod x.natAbs y.natAbs
  have hlt := Nat.mod_lt x.natAbs (show 0 < y.natAbs by omega)
  generalize x.natAbs / y.natAbs = Q at *
  generalize x.natAbs % y.natAbs = M at *
  have hx := sg_self x
  have hyy := sg_self y
  rw [← e] at hx
  refine floor_one ?_ ?_
  · revert hx hyy hs
    rcases ngB x with _ | _ <;> rcases ngB y with _ | _
    all_goals
      intro hs hx hyy
      simp only [sg] at hx hyy ⊢
      simp at hx hyy hs ⊢
      rw [← hx]
      first
      | (have e8 : (Q : Int) * y = ((y.natAbs : Nat) : Int) * Q := by (rw [Int.mul_comm]; exact congrArg (· * (Q : Int)) hyy.symm)
         try rw [Int.neg_mul]
         omega)
      | (have e8 : (Q : Int) * y = -(((y.natAbs : Nat) : Int) * Q) := by (rw [Int.mul_comm, ← Int.neg_mul]; exact congrArg (· * (Q : Int)) hyy.symm)
         try rw [Int.neg_mul]
         omega)
  · revert hyy
    rcases ngB y with _ | _
    · intro hyy; left; rw [sg_false] at hyy ⊢; omega
    · intro hyy; right; rw [sg_true] at hyy ⊢; omega
theorem floor_off {x y : Int} (hy : y ≠ 0) (hs : ngB x ≠ ngB y) (hm : 0 < x.natAbs % y.natAbs) : sg true (x.natAbs / y.natAbs + 1) = x.fdiv y ∧ sg (ngB y) (y.natAbs - x.natAbs % y.natAbs) = x.fmod y := by
  have e := Nat.div_add_mod x.natAbs y.natAbs
  have hlt := Nat.mod_lt x.natAbs (show 0 < y.natAbs by omega)
  generalize x.natAbs / y.natAbs = Q at *
  generalize x.natAbs % y.natAbs = M at *
  have hx := sg_self x
  have hyy := sg_self y
  rw [← e] at hx
  refine floor_one ?_ ?_
  · have e2 : y.natAbs * (Q + 1) = y.natAbs * Q + y.natAbs := by rw [Nat.mul_add, Nat.mul_one]
    have e3 : ((y.natAbs * (Q + 1) : Nat) : Int) = (y.natAbs : Int) * ((Q + 1 : Nat) : Int) := by rw [Int.natCast_mul]
    revert hx hyy hs
    rcases ngB x with _ | _ <;> rcases ngB y with _ | _
    · intro hs; exact absurd rfl hs
    · intro hs hx hyy
      rw [sg_true] at hyy; rw [sg_false] at hx
      have e5 : -((Q + 1 : Nat) : Int) * -((y.natAbs : Nat) : Int) = ((y.natAbs * (Q + 1) : Nat) : Int) := by
        rw [Int.neg_mul_neg, e3, Int.mul_comm]
      rw [hyy] at e5
      rw [sg_true, sg_true, ← hx, e5]; omega
    · intro hs hx hyy
      rw [sg_false] at hyy; rw [sg_true] at hx
      have e5 : -((Q + 1 : Nat) : Int) * ((y.natAbs : Nat) : Int) = -((y.natAbs * (Q + 1) : Nat) : Int) := by
        rw [Int.neg_mul, e3, Int.mul_comm]
      have e6 : -((Q + 1 : Nat) : Int) * y = -((y.natAbs * (Q + 1) : Nat) : Int) := (congrArg (-((Q + 1 : Nat) : Int) * ·) hyy).symm.trans e5
      rw [sg_true, sg_false, ← hx, e6]; omega
    · intro hs; exact absurd rfl hs
  · revert hyy
    rcases ngB y with _ | _
    · intro hyy; left; rw [sg_false] at hyy ⊢; omega
    · intro hyy; right; rw [sg_true] at hyy ⊢; omega
theorem vars4 (w : World) (t1 t2 t3 t4 : TypeId) (x y z u : Array Value) : ∃ wx, (((w.alloc (.cells x t1)).alloc (.cells y t2)).alloc (.cells z t3)).alloc (.cells u t4) = wx ∧ Below w.heap.size w wx ∧ Blk wx w.heap.size t1 x ∧ Blk wx (w.heap.size + 1) t2 y ∧ Blk wx (w.heap.size + 1 + 1) t3 z ∧ Blk wx (w.heap.size + 1 + 1 + 1) t4 u ∧ w.heap.size + 1 + 1 + 1 < wx.heap.size := by
  obtain ⟨wx, hwx, b, B0, B1, B2, hs⟩ := vars3 w t1 t2 t3 x y z
  have e : wx.heap.size = w.heap.size + 1 + 1 + 1 := by rw [← hwx]; simp
  refine ⟨_, rfl, ?_⟩
  rw [hwx]
  refine ⟨b.alloc (by omega) _, B0.alloc _, B1.alloc _, B2.alloc _, ?_, by simp [e]⟩
  rw [← e]
  exact Blk.new wx t4 u

set_option maxHeartbeats 1600000 in
set_option maxRecDepth 100000 in
theorem zexact_zero (a0 : Value) (x : Int) (a1 : Value) (y : Int) (w : World) (h0 : IsZ w a0 x) (h1 : IsZ w a1 y) (hy : y = 0) :
    Calls Tryz.prog 76 #[a0, a1] w (RetZE 0 3 w) := by
  obtain ⟨u0, rfl, s0⟩ := h0
  obtain ⟨A0, c0, rfl, _⟩ := id s0
  obtain ⟨u1, rfl, s1⟩ := h1
  obtain ⟨A1, c1, rfl, _⟩ := id s1
  have HD : Hid (digs 4294967296 y.natAbs = digs 4294967296 0) := by show _ = _; rw [hy]; rfl
  clear hy
  go_enter Tryz.func76, Tryz.ntmps76
  go_upto_region 1 with (fail)
  obtain ⟨wx, hwx, bb, B0, B1, B2, hsz⟩ := vars3 w 25 25 25 #[.bool (ngB x), .slice A0 (digs 4294967296 (x).natAbs).length c0] #[.bool (ngB y), .slice A1 (digs 4294967296 (y).natAbs).length c1] #[.bool false, .slice none 0 0]
  rw [hwx]
  clear hwx
  have k0s := s0.below bb
  have k0 : IsZ wx (.agg #[.bool (ngB x), .slice A0 (digs 4294967296 (x).natAbs).length c0]) (x) := isZ_mk k0s rfl rfl
  have k1s := s1.below bb
  have k1 : IsZ wx (.agg #[.bool (ngB y), .slice A1 (digs 4294967296 (y).natAbs).length c1]) (y) := isZ_mk k1s rfl rfl
  have hszb := bb.size
  have bb0 := bb.size
  refine flowp 10 [Pd.eq (.pointer (some ⟨w.heap.size, 1, none⟩)), Pd.eq (.slice A0 (digs 4294967296 (x).natAbs).length c0), Pd.eq (.pointer (some ⟨w.heap.size + 1, 1, none⟩)), Pd.eq (.slice A1 (digs 4294967296 (y).natAbs).length c1), pt .u64 ([]) 3 wx.heap.size, pt .u64 ([]) 3 wx.heap.size, ps .u64 ([]) wx.heap.size, Pd.eq (.int .i64 3), ps .u64 ([]) wx.heap.size, Pd.eq (.int .i64 3)] (by kernel_rfl) ?ob1 ?done1
  case ob1 =>
    refine And.intro (ob_fieldAddr rfl (wt_none rfl) (ev_far rfl rfl) (fun _ => by kernel_rfl) (fun _ => rfl)) ?_
    refine And.intro (ob_load rfl (wt_none rfl) (ev_dep (j := 0) (by kernel_rfl) rfl rfl) (fun w2 hb => run_load1 Tryz.underlying23 rfl ((B0.below hb).cell 1)) (fun _ _ => rfl)) ?_
    refine And.intro (ob_fieldAddr rfl (wt_none rfl) (ev_far rfl rfl) (fun _ => by kernel_rfl) (fun _ => rfl)) ?_
    refine And.intro (ob_load rfl (wt_none rfl) (ev_dep (j := 2) (by kernel_rfl) rfl rfl) (fun w2 hb => run_load1 Tryz.underlying23 rfl ((B1.below hb).cell 1)) (fun _ _ => rfl)) ?_
    refine And.intro (ob_call2 rfl Tryz.func38 (by kernel_rfl) (wt_none rfl) (ev_dep (j := 1) (by kernel_rfl) rfl rfl) (ev_dep (j := 3) (by kernel_rfl) rfl rfl) (fun w2 u0 u1 hb h0 h1 => by obtain rfl := h0; obtain rfl := h1; exact (dexact_zero _ _ _ (whl.IsS.cast (k1s.below hb) HD.out)).mono fun e w3 h => RetSI.pd h hb.size)) ?_
    refine And.intro (ob_move rfl (wt_none rfl) (ev_dep (j := 4) (by kernel_rfl) rfl rfl) (fun _ _ h => h)) ?_
    refine And.intro (ob_extract rfl (wt_none rfl) (ev_dep (j := 5) (by kernel_rfl) rfl rfl) (fun w2 u hu => by obtain ⟨v, rfl, q1, q2⟩ := hu; exact ⟨v, rfl, q1, q2⟩)) ?_
    refine And.intro (ob_extract rfl (wt_none rfl) (ev_dep (j := 5) (by kernel_rfl) rfl rfl) (fun w2 u hu => by obtain ⟨v, rfl, q1, q2⟩ := hu; exact ⟨_, rfl, rfl⟩)) ?_
    refine And.intro (ob_assign rfl (wt_none rfl) (ev_dep (j := 6) (by kernel_rfl) rfl rfl) (fun _ _ h => h)) ?_
    refine And.intro (ob_assign rfl (wt_none rfl) (ev_dep (j := 7) (by kernel_rfl) rfl rfl) (fun _ _ h => h)) ?_
    trivial
  case done1 =>
    refine fun w1 hb1 v0 h0 v1 h1 v2 h2 v3 h3 v4 h4 v5 h5 v6 h6 v7 h7 v8 h8 v9 h9 b hbf => ?_
    obtain rfl := h0; obtain rfl := h1; obtain rfl := h2; obtain rfl := h3; obtain rfl := h7; obtain rfl := h9
    clear h4
    clear h5
    obtain ⟨q6, f6⟩ := h6
    obtain ⟨q8, f8⟩ := h8
    simp only [Act.put, List.setIfInBounds_toArray, List.set_cons_zero, List.set_cons_succ] at hbf
    subst hbf
    obtain ⟨A6, c6, rfl, _⟩ := id q8
    replace B0 := B0.below hb1
    replace B1 := B1.below hb1
    replace B2 := B2.below hb1
    replace k0s := k0s.below hb1
    replace k1s := k1s.below hb1
    replace k0 := k0.below hb1
    replace k1 := k1.below hb1
    replace bb := bb.trans (hb1.mono bb.size)
    have hszb := bb.size
    obtain ⟨x00, x01, y00, y01⟩ := Blk.two B0
    obtain ⟨x10, x11, y10, y11⟩ := Blk.two B1
    obtain ⟨x20, x21, y20, y21⟩ := Blk.two B2
    refine ops_done ?_
    go_wp2
    exact bodyPost_ret (v := .tuple #[.agg #[.bool false, .slice none 0 0], .int .i64 3]) (by simp [results, Tryz.results76, go_sem, x20, x21]) rfl ⟨_, rfl, zero_isZ _, zero_fresh _, ((bb.setCell (show w.heap.size ≤ w.heap.size + 1 + 1 by omega) _).setCell (show w.heap.size ≤ w.heap.size + 1 + 1 by omega) _)⟩

set_option maxHeartbeats 1600000 in
set_option maxRecDepth 100000 in
theorem zexact_rest (a0 : Value) (x : Int) (a1 : Value) (y : Int) (w : World) (h0 : IsZ w a0 x) (h1 : IsZ w a1 y) (hl : lenZ x ≤ 20000) (hl2 : lenZ y ≤ 20000) (hy : y ≠ 0) (hm : x.natAbs % y.natAbs ≠ 0) :
    Calls Tryz.prog 76 #[a0, a1] w (RetZE 0 4 w) := by
  obtain ⟨u0, rfl, s0⟩ := h0
  obtain ⟨A0, c0, rfl, _⟩ := id s0
  obtain ⟨u1, rfl, s1⟩ := h1
  obtain ⟨A1, c1, rfl, _⟩ := id s1
  have HL : Hid ((digs 4294967296 x.natAbs).length ≤ 90000) := Nat.le_trans hl (by omega)
  have HL2 : Hid ((digs 4294967296 y.natAbs).length ≤ 90000) := Nat.le_trans hl2 (by omega)
  have HY : Hid (0 < y.natAbs) := by show 0 < _; omega
  have HMD := Lib.hid hm
  clear hm hy
  go_enter Tryz.func76, Tryz.ntmps76
  go_upto_region 1 with (fail)
  obtain ⟨wx, hwx, bb, B0, B1, B2, hsz⟩ := vars3 w 25 25 25 #[.bool (ngB x), .slice A0 (digs 4294967296 (x).natAbs).length c0] #[.bool (ngB y), .slice A1 (digs 4294967296 (y).natAbs).length c1] #[.bool false, .slice none 0 0]
  rw [hwx]
  clear hwx
  have k0s := s0.below bb
  have k0 : IsZ wx (.agg #[.bool (ngB x), .slice A0 (digs 4294967296 (x).natAbs).length c0]) (x) := isZ_mk k0s rfl rfl
  have k1s := s1.below bb
  have k1 : IsZ wx (.agg #[.bool (ngB y), .slice A1 (digs 4294967296 (y).natAbs).length c1]) (y) := isZ_mk k1s rfl rfl
  have hszb := bb.size
  have bb0 := bb.size
  refine flowp 10 [Pd.eq (.pointer (some ⟨w.heap.size, 1, none⟩)), Pd.eq (.slice A0 (digs 4294967296 (x).natAbs).length c0), Pd.eq (.pointer (some ⟨w.heap.size + 1, 1, none⟩)), Pd.eq (.slice A1 (digs 4294967296 (y).natAbs).length c1), pt .u64 ([]) 4 wx.heap.size, pt .u64 ([]) 4 wx.heap.size, ps .u64 ([]) wx.heap.size, Pd.eq (.int .i64 4), ps .u64 ([]) wx.heap.size, Pd.eq (.int .i64 4)] (by kernel_rfl) ?ob2 ?done2
  case ob2 =>
    refine And.intro (ob_fieldAddr rfl (wt_none rfl) (ev_far rfl rfl) (fun _ => by kernel_rfl) (fun _ => rfl)) ?_
    refine And.intro (ob_load rfl (wt_none rfl) (ev_dep (j := 0) (by kernel_rfl) rfl rfl) (fun w2 hb => run_load1 Tryz.underlying23 rfl ((B0.below hb).cell 1)) (fun _ _ => rfl)) ?_
    refine And.intro (ob_fieldAddr rfl (wt_none rfl) (ev_far rfl rfl) (fun _ => by kernel_rfl) (fun _ => rfl)) ?_
    refine And.intro (ob_load rfl (wt_none rfl) (ev_dep (j := 2) (by kernel_rfl) rfl rfl) (fun w2 hb => run_load1 Tryz.underlying23 rfl ((B1.below hb).cell 1)) (fun _ _ => rfl)) ?_
    refine And.intro (ob_call2 rfl Tryz.func38 (by kernel_rfl) (wt_none rfl) (ev_dep (j := 1) (by kernel_rfl) rfl rfl) (ev_dep (j := 3) (by kernel_rfl) rfl rfl) (fun w2 u0 u1 hb h0 h1 => by obtain rfl := h0; obtain rfl := h1; exact (dexact_rest _ _ _ _ _ (k0s.below hb) (k1s.below hb) HL.out HL2.out HY.out HMD.out).mono fun e w3 h => RetSI.pd h hb.size)) ?_
    refine And.intro (ob_move rfl (wt_none rfl) (ev_dep (j := 4) (by kernel_rfl) rfl rfl) (fun _ _ h => h)) ?_
    refine And.intro (ob_extract rfl (wt_none rfl) (ev_dep (j := 5) (by kernel_rfl) rfl rfl) (fun w2 u hu => by obtain ⟨v, rfl, q1, q2⟩ := hu; exact ⟨v, rfl, q1, q2⟩)) ?_
    refine And.intro (ob_extract rfl (wt_none rfl) (ev_dep (j := 5) (by kernel_rfl) rfl rfl) (fun w2 u hu => by obtain ⟨v, rfl, q1, q2⟩ := hu; exact ⟨_, rfl, rfl⟩)) ?_
    refine And.intro (ob_assign rfl (wt_none rfl) (ev_dep (j := 6) (by kernel_rfl) rfl rfl) (fun _ _ h => h)) ?_
    refine And.intro (ob_assign rfl (wt_none rfl) (ev_dep (j := 7) (by kernel_rfl) rfl rfl) (fun _ _ h => h)) ?_
    trivial
  case done2 =>
    refine fun w1 hb1 v0 h0 v1 h1 v2 h2 v3 h3 v4 h4 v5 h5 v6 h6 v7 h7 v8 h8 v9 h9 b hbf => ?_
    obtain rfl := h0; obtain rfl := h1; obtain rfl := h2; obtain rfl := h3; obtain rfl := h7; obtain rfl := h9
    clear h4
    clear h5
    obtain ⟨q6, f6⟩ := h6
    obtain ⟨q8, f8⟩ := h8
    simp only [Act.put, List.setIfInBounds_toArray, List.set_cons_zero, List.set_cons_succ] at hbf
    subst hbf
    obtain ⟨A6, c6, rfl, _⟩ := id q8
    replace B0 := B0.below hb1
    replace B1 := B1.below hb1
    replace B2 := B2.below hb1
    replace k0s := k0s.below hb1
    replace k1s := k1s.below hb1
    replace k0 := k0.below hb1
    replace k1 := k1.below hb1
    replace bb := bb.trans (hb1.mono bb.size)
    have hszb := bb.size
    obtain ⟨x00, x01, y00, y01⟩ := Blk.two B0
    obtain ⟨x10, x11, y10, y11⟩ := Blk.two B1
    obtain ⟨x20, x21, y20, y21⟩ := Blk.two B2
    refine ops_done ?_
    go_wp2
    exact bodyPost_ret (v := .tuple #[.agg #[.bool false, .slice none 0 0], .int .i64 4]) (by simp [results, Tryz.results76, go_sem, x20, x21]) rfl ⟨_, rfl, zero_isZ _, zero_fresh _, ((bb.setCell (show w.heap.size ≤ w.heap.size + 1 + 1 by omega) _).setCell (show w.heap.size ≤ w.heap.size + 1 + 1 by omega) _)⟩

set_option maxHeartbeats 1600000 in
set_option maxRecDepth 100000 in
theorem zexact_ok (a0 : Value) (x : Int) (a1 : Value) (y : Int) (q : Int) (w : World) (h0 : IsZ w a0 x) (h1 : IsZ w a1 y) (hl : lenZ x ≤ 20000) (hl2 : lenZ y ≤ 20000) (hy : y ≠ 0) (hq : x = q * y) :
    Calls Tryz.prog 76 #[a0, a1] w (RetZE q 0 w) := by
  obtain ⟨u0, rfl, s0⟩ := h0
  obtain ⟨A0, c0, rfl, _⟩ := id s0
  obtain ⟨u1, rfl, s1⟩ := h1
  obtain ⟨A1, c1, rfl, _⟩ := id s1
  have HL : Hid ((digs 4294967296 x.natAbs).length ≤ 90000) := Nat.le_trans hl (by omega)
  have HL2 : Hid ((digs 4294967296 y.natAbs).length ≤ 90000) := Nat.le_trans hl2 (by omega)
  obtain ⟨hm1, hm2, hm3⟩ := exact_q hy hq
  have HY : Hid (0 < y.natAbs) := by show 0 < _; omega
  have HM1 := Lib.hid hm1
  have HM2 := Lib.hid hm2
  have HZ := Lib.hid hm3
  clear hm1 hm2 hm3 hy hq
  go_enter Tryz.func76, Tryz.ntmps76
  go_upto_region 1 with (fail)
  obtain ⟨wx, hwx, bb, B0, B1, B2, hsz⟩ := vars3 w 25 25 25 #[.bool (ngB x), .slice A0 (digs 4294967296 (x).natAbs).length c0] #[.bool (ngB y), .slice A1 (digs 4294967296 (y).natAbs).length c1] #[.bool false, .slice none 0 0]
  rw [hwx]
  clear hwx
  have k0s := s0.below bb
  have k0 : IsZ wx (.agg #[.bool (ngB x), .slice A0 (digs 4294967296 (x).natAbs).length c0]) (x) := isZ_mk k0s rfl rfl
  have k1s := s1.below bb
  have k1 : IsZ wx (.agg #[.bool (ngB y), .slice A1 (digs 4294967296 (y).natAbs).length c1]) (y) := isZ_mk k1s rfl rfl
  have hszb := bb.size
  have bb0 := bb.size
  refine flowp 10 [Pd.eq (.pointer (some ⟨w.heap.size, 1, none⟩)), Pd.eq (.slice A0 (digs 4294967296 (x).natAbs).length c0), Pd.eq (.pointer (some ⟨w.heap.size + 1, 1, none⟩)), Pd.eq (.slice A1 (digs 4294967296 (y).natAbs).length c1), pt .u64 (digs 4294967296 q.natAbs) 0 wx.heap.size, pt .u64 (digs 4294967296 q.natAbs) 0 wx.heap.size, ps .u64 (digs 4294967296 q.natAbs) wx.heap.size, Pd.eq (.int .i64 0), ps .u64 (digs 4294967296 q.natAbs) wx.heap.size, Pd.eq (.int .i64 0)] (by kernel_rfl) ?ob3 ?done3
  case ob3 =>
    refine And.intro (ob_fieldAddr rfl (wt_none rfl) (ev_far rfl rfl) (fun _ => by kernel_rfl) (fun _ => rfl)) ?_
    refine And.intro (ob_load rfl (wt_none rfl) (ev_dep (j := 0) (by kernel_rfl) rfl rfl) (fun w2 hb => run_load1 Tryz.underlying23 rfl ((B0.below hb).cell 1)) (fun _ _ => rfl)) ?_
    refine And.intro (ob_fieldAddr rfl (wt_none rfl) (ev_far rfl rfl) (fun _ => by kernel_rfl) (fun _ => rfl)) ?_
    refine And.intro (ob_load rfl (wt_none rfl) (ev_dep (j := 2) (by kernel_rfl) rfl rfl) (fun w2 hb => run_load1 Tryz.underlying23 rfl ((B1.below hb).cell 1)) (fun _ _ => rfl)) ?_
    refine And.intro (ob_call2 rfl Tryz.func38 (by kernel_rfl) (wt_none rfl) (ev_dep (j := 1) (by kernel_rfl) rfl rfl) (ev_dep (j := 3) (by kernel_rfl) rfl rfl) (fun w2 u0 u1 hb h0 h1 => by obtain rfl := h0; obtain rfl := h1; exact (dexact_ok _ _ _ _ _ (k0s.below hb) (k1s.below hb) HL.out HL2.out HY.out _ HM1.out HM2.out.symm).mono fun e w3 h => RetSI.pd h hb.size)) ?_
    refine And.intro (ob_move rfl (wt_none rfl) (ev_dep (j := 4) (by kernel_rfl) rfl rfl) (fun _ _ h => h)) ?_
    refine And.intro (ob_extract rfl (wt_none rfl) (ev_dep (j := 5) (by kernel_rfl) rfl rfl) (fun w2 u hu => by obtain ⟨v, rfl, q1, q2⟩ := hu; exact ⟨v, rfl, q1, q2⟩)) ?_
    refine And.intro (ob_extract rfl (wt_none rfl) (ev_dep (j := 5) (by kernel_rfl) rfl rfl) (fun w2 u hu => by obtain ⟨v, rfl, q1, q2⟩ := hu; exact ⟨_, rfl, rfl⟩)) ?_
    refine And.intro (ob_assign rfl (wt_none rfl) (ev_dep (j := 6) (by kernel_rfl) rfl rfl) (fun _ _ h => h)) ?_
    refine And.intro (ob_assign rfl (wt_none rfl) (ev_dep (j := 7) (by kernel_rfl) rfl rfl) (fun _ _ h => h)) ?_
    trivial
  case done3 =>
    refine fun w1 hb1 v0 h0 v1 h1 v2 h2 v3 h3 v4 h4 v5 h5 v6 h6 v7 h7 v8 h8 v9 h9 b hbf => ?_
    obtain rfl := h0; obtain rfl := h1; obtain rfl := h2; obtain rfl := h3; obtain rfl := h7; obtain rfl := h9
    clear h4
    clear h5
    obtain ⟨q6, f6⟩ := h6
    obtain ⟨q8, f8⟩ := h8
    simp only [Act.put, List.setIfInBounds_toArray, List.set_cons_zero, List.set_cons_succ] at hbf
    subst hbf
    obtain ⟨A6, c6, rfl, _⟩ := id q8
    have kq := q8
    have kqf := f8
    replace B0 := B0.below hb1
    replace B1 := B1.below hb1
    replace B2 := B2.below hb1
    replace k0s := k0s.below hb1
    replace k1s := k1s.below hb1
    replace k0 := k0.below hb1
    replace k1 := k1.below hb1
    replace bb := bb.trans (hb1.mono bb.size)
    have hszb := bb.size
    obtain ⟨x00, x01, y00, y01⟩ := Blk.two B0
    obtain ⟨x10, x11, y10, y11⟩ := Blk.two B1
    obtain ⟨x20, x21, y20, y21⟩ := Blk.two B2
    refine ops_done ?_
    go_upto_region 4 with (fail)
    refine flowp 7 [Pd.eq (.pointer (some ⟨w.heap.size, 0, none⟩)), Pd.eq (.bool (ngB x)), Pd.eq (.pointer (some ⟨w.heap.size + 1, 0, none⟩)), Pd.eq (.bool (ngB y)), Pd.eq (.bool (!((ngB x) == (ngB y)))), Pd.eq (.slice A6 (digs 4294967296 q.natAbs).length c6), pz (q) wx.heap.size] (by kernel_rfl) ?ob4 ?done4
    case ob4 =>
      refine And.intro (ob_fieldAddr rfl (wt_none rfl) (ev_far rfl rfl) (fun _ => by kernel_rfl) (fun _ => rfl)) ?_
      refine And.intro (ob_load rfl (wt_none rfl) (ev_dep (j := 0) (by kernel_rfl) rfl rfl) (fun w2 hb => run_load1 Tryz.underlying4 rfl ((B0.below hb).cell 0)) (fun _ _ => rfl)) ?_
      refine And.intro (ob_fieldAddr rfl (wt_none rfl) (ev_far rfl rfl) (fun _ => by kernel_rfl) (fun _ => rfl)) ?_
      refine And.intro (ob_load rfl (wt_none rfl) (ev_dep (j := 2) (by kernel_rfl) rfl rfl) (fun w2 hb => run_load1 Tryz.underlying4 rfl ((B1.below hb).cell 0)) (fun _ _ => rfl)) ?_
      refine And.intro (ob_bin rfl (wt_none rfl) (ev_dep (j := 1) (by kernel_rfl) rfl rfl) (ev_dep (j := 3) (by kernel_rfl) rfl rfl) (fun _ _ _ hx hy => ⟨.bool (!((ngB x) == (ngB y))), by rw [hx, hy]; exact bin_neq_bool _ _ _ _ Tryz.underlying4 _, rfl⟩)) ?_
      refine And.intro (ob_move rfl (wt_none rfl) (ev_far rfl rfl) (fun _ _ h => h)) ?_
      refine And.intro (ob_call2 rfl Tryz.func72 (by kernel_rfl) (wt_none rfl) (ev_dep (j := 4) (by kernel_rfl) rfl rfl) (ev_dep (j := 5) (by kernel_rfl) rfl rfl) (fun w2 u0 u1 hb h0 h1 => by obtain rfl := h0; obtain rfl := h1; exact signed_pd _ _ _ (q) _ (kq.below hb) kqf HZ.out)) ?_
      trivial
    case done4 =>
      refine fun w2 hb2 v0 h0 v1 h1 v2 h2 v3 h3 v4 h4 v5 h5 v6 h6 b hbf => ?_
      obtain rfl := h0; obtain rfl := h1; obtain rfl := h2; obtain rfl := h3; obtain rfl := h4; obtain rfl := h5
      obtain ⟨q6, f6⟩ := h6
      simp only [Act.put, List.setIfInBounds_toArray, List.set_cons_zero, List.set_cons_succ] at hbf
      subst hbf
      obtain ⟨u6, rfl, q6⟩ := q6
      obtain ⟨A9, c9, rfl, _⟩ := id q6
      have B9 := B2.below hb2
      refine ops_store (i := 7) rfl rfl rfl rfl rfl rfl (cells := [.bool (ngB (q)), .slice A9 (digs 4294967296 (q).natAbs).length c9]) rfl B9 rfl (by kernel_rfl) (one2 rfl rfl) fun w9 hg9 BB9 => ?_
      have k9 := off q6 B9 no_ints2 hg9
      have f9 := (f6 _ _ rfl).mono bb0
      have bb9 := ((bb.trans (hb2.mono bb.size)).trans ((Below.refl _ _).grown hg9 (Nat.le_trans bb.size hb2.size) (fun g hg => by injection hg with hg; omega)))
      obtain ⟨c0, c1, _, _⟩ := Blk.two BB9
      refine ops_assign (i := 8) (.int .i64 0) rfl rfl rfl rfl rfl fun b hbf => ?_
      simp only [Act.put, List.setIfInBounds_toArray, List.set_cons_zero, List.set_cons_succ] at hbf
      subst hbf
      refine ops_done ?_
      go_wp2
      exact bodyPost_ret (v := .tuple #[.agg #[.bool (ngB (q)), .slice A9 (digs 4294967296 (q).natAbs).length c9], .int .i64 0]) (by simp [results, Tryz.results76, go_sem, c0, c1]) rfl ⟨_, rfl, isZ_mk k9 rfl rfl, freshZ_mk f9, bb9⟩
end Go.Proofs.YtbebmknfecehnaaGreat.whl
