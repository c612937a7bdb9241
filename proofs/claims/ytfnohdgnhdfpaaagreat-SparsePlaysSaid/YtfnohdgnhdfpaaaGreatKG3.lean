/- Package whole and the document's whole numbers: the calls. Condition: as each says.
Structs within structs: a part of a variable loaded, a struct of a struct and a slice built. No program stands here.
Package whole and the document's whole numbers: the calls. Condition: as each says.
Package whole and the document's whole numbers: the calls. Condition: as each says.
Package whole: Of, Print; the chapter's example. Condition: as each says.
What the laws of layer 7 share: an argument as a whole number, sizes, the document's Same on two that are one. Condition: as each says.
Texts with a sign ahead: strings.CutPrefix of "-", whole.Parse; the document's texts. Condition: as each says.
A region that draws its order, one of whose operations may come behind the first store ('lateStores': the second extract of 'x, y := f(a, b)'): it is taken first all the same, for it yields in whatever world. No program stands here.
What WholeTexts' regions want beside: the obligations of min, of a string's length and cut; one answer of a text; texts of whole numbers, read. Condition: as each says.
Package whole: Sum, over rows of values of two cells; the document's Num of a great number. Condition: as each says.
What WholeMakes wants: an argument as a slice of whole numbers; a row of whole numbers that the call makes by append. Condition: as each says.
A region that draws its order, some of whose operations may come behind the first store (moves of what stands ahead, len, min): they are taken first, for they yield in whatever world. No program stands here.
A region that draws its order, a chain of whose operations may come behind the first store (len, min and a cut of what was loaded): when all others are up, the rest of the chain is taken, for it yields in whatever world. No program stands here.
Rows of texts that the call makes by append; a row's cell in a region that draws its order; one cell written in the text's order. Condition: as each says.
Rows of fractions (structs of a struct and a slice: three cells each): a slice that reads as fractions; a row of the call's own that grows by append; an element loaded. Condition: as each says.
Maps of fractions by row and place: a block that holds, by arrays of two numbers, what of a table is no nought; looked up, stored, struck. Condition: as each says.
Mathematics of the greatest common divisor, by what is left and by halving. No program stands here.
The document's greatest common divisor; the program's by what is left of divisions. Condition: slices read as numbers.
The program's greatest common divisor by halving and taking off. Condition: slices read as numbers.
The program's greatest common divisor by halving and taking off: the loop. Condition: slices read as numbers.
The program's greatest common divisor of many numbers, and whether two are coprime; the chapter's example. Condition: slices read as numbers.
The chapter's example of the greatest common divisor. -/
import Derived.Test.YtfnohdgnhdfpaaaGreatKG2
import Derived.Deep.Cut
import Derived.Lib.SmallJoins
import Derived.ProofKit
import Derived.OpenShut
import Derived.Deep.SlicePairs
import Derived.Maps.RangeWalk
import Derived.Maps.OwnSet
import Derived.WideKeyPair
import Derived.Deep.LoopGhost
namespace Go.Proofs.YtfnohdgnhdfpaaaGreat.whl
open Go.RowKit Go.Proofs.YtfnohdgnhdfpaaaGreat.num Go.Proofs.YtfnohdgnhdfpaaaGreat.mem Go.Proofs.YtfnohdgnhdfpaaaGreat.nat Go.Proofs.YtfnohdgnhdfpaaaGreat.txt Go.Proofs.YtfnohdgnhdfpaaaGreat.str Go.Proofs.YtfnohdgnhdfpaaaGreat.flow
set_option linter.unusedVariables false
theorem signed_pd (b : Bool) (u : Value) (x : Nat) (z : Int) (w : World) {B : Nat} (h : IsS w .u64 u (digs 4294967296 x)) (hf : Fresh B u) (hz : sg b x = z) : Calls Tryz.prog 125 #[.bool b, u] w (RetPd (pz z B) w) :=
  (signed_any b u x w h).mono fun e w' h' => ⟨_, h'.1, ⟨isZ_mk (h.below h'.2) (by rw [← hz, sg_abs]) (by rw [hz]), freshZ_mk hf⟩, h'.2⟩
theorem made_pd (b : Bool) (u : Value) (x : Nat) (z : Int) (w : World) (h : IsS w .i64 u (digs 10000 x)) (hz : sg b x = z) : Calls Tryz.prog 134 #[.bool b, u] w (RetPd (pr z) w) :=
  (rmade_any b u x w h).mono fun e w' h' => ⟨_, h'.1, isR_mk (h.below h'.2) (by rw [← hz, sg_abs]) (by rw [hz]), h'.2⟩
theorem vars2 (w : World) (t1 t2 : TypeId) (x y : Array Value) : ∃ wx, (w.alloc (.cells x t1)).alloc (.cells y t2) = wx ∧ Below w.heap.size w wx ∧ Blk wx w.heap.size t1 x ∧ Blk wx (w.heap.size + 1) t2 y ∧ w.heap.size + 1 < wx.heap.size := by
  refine ⟨_, rfl, (below_alloc (Nat.le_refl _) _).alloc (by simp) _, (Blk.new w t1 x).alloc _, ?_, by simp⟩
  have := Blk.new (w.alloc (.cells x t1)) t2 y
  simpa using this
set_option maxHeartbeats 1600000 in
set_option maxRecDepth 100000 in
theorem rof_any (a0 : Value) (x : Int) (w : World) (h0 : IsZ w a0 x) (hl : lenZ x ≤ 30000) :
    Calls Tryz.prog 87 #[a0] w (RetR x w) := by
  obtain ⟨u0, rfl, s0⟩ := h0
  obtain ⟨A0, c0, rfl, _⟩ := id s0
  have HL : Hid ((digs 4294967296 x.natAbs).length ≤ 100000) := by show _ ≤ _; unfold lenZ at hl; omega
  have HZ : Hid (sg (ngB x) x.natAbs = x) := by show _ = _; exact sg_self x
  go_enter Tryz.func87, Tryz.ntmps87
  go_upto_region 1 with (fail)
  obtain ⟨wx, hwx, bb, B0, B1, hsz⟩ := vars2 w 42 53 #[.bool (ngB x), .slice A0 (digs 4294967296 (x).natAbs).length c0] #[.bool false, .slice none 0 0]
  rw [hwx]
  clear hwx
  have k0s := s0.below bb
  have k0 : IsZ wx (.agg #[.bool (ngB x), .slice A0 (digs 4294967296 (x).natAbs).length c0]) (x) := isZ_mk k0s rfl rfl
  have hszb := bb.size
  refine flow 6 [Pd.eq (.pointer (some ⟨w.heap.size, 0, none⟩)), Pd.eq (.bool (ngB x)), Pd.eq (.pointer (some ⟨w.heap.size, 1, none⟩)), Pd.eq (.slice A0 (digs 4294967296 (x).natAbs).length c0), ps .i64 (digs 10000 x.natAbs) wx.heap.size, pr (x)] (by kernel_rfl) (by kernel_rfl) ?ob3 ?done3
  case ob3 =>
    refine And.intro (ob_fieldAddr rfl (wt_none rfl) (ev_far rfl rfl) (fun _ => by kernel_rfl) (fun _ => rfl)) ?_
    refine And.intro (ob_load rfl (wt_none rfl) (ev_dep (j := 0) (by kernel_rfl) rfl rfl) (fun w2 hb => run_load1 Tryz.underlying4 rfl ((B0.drew.below hb).cell 0)) (fun _ _ => rfl)) ?_
    refine And.intro (ob_fieldAddr rfl (wt_none rfl) (ev_far rfl rfl) (fun _ => by kernel_rfl) (fun _ => rfl)) ?_
    refine And.intro (ob_load rfl (wt_none rfl) (ev_dep (j := 2) (by kernel_rfl) rfl rfl) (fun w2 hb => run_load1 Tryz.underlying40 rfl ((B0.drew.below hb).cell 1)) (fun _ _ => rfl)) ?_
    refine And.intro (ob_call1 rfl Tryz.func89 (by kernel_rfl) (wt_none rfl) (ev_dep (j := 3) (by kernel_rfl) rfl rfl) (fun w2 u0 hb h0 => by obtain rfl := h0; exact (refOf_any _ _ _ (k0s.drew.below hb) HL.out).mono fun e w3 h => RetS.pd h hb.size)) ?_
    refine And.intro (ob_call2 rfl Tryz.func134 (by kernel_rfl) (wt_none rfl) (ev_dep (j := 1) (by kernel_rfl) rfl rfl) (ev_dep (j := 4) (by kernel_rfl) rfl rfl) (fun w2 u0 u1 hb h0 h1 => by obtain rfl := h0; exact made_pd _ _ _ (x) _ h1.1 HZ.out)) ?_
    trivial
  case done3 =>
    refine fun w1 hb1 v0 h0 v1 h1 v2 h2 v3 h3 v4 h4 v5 h5 b hbf => ?_
    obtain rfl := h0; obtain rfl := h1; obtain rfl := h2; obtain rfl := h3
    obtain ⟨q4, f4⟩ := h4
    have q5 := h5
    simp only [Act.put, List.setIfInBounds_toArray, List.set_cons_zero, List.set_cons_succ] at hbf
    subst hbf
    obtain ⟨u5, rfl, q5⟩ := q5
    obtain ⟨A9, c9, rfl, _⟩ := id q5
    have B9 := B1.below hb1
    refine any_store (i := 6) (by kernel_rfl) rfl rfl rfl rfl rfl rfl (cells := [.bool (ngB (x)), .slice A9 (digs 10000 (x).natAbs).length c9]) rfl B9 rfl (by kernel_rfl) (one2 rfl rfl) fun w9 hg9 BB9 => ?_
    have k9 := off q5 B9 no_ints2 hg9
    have bb9 := ((bb.trans (hb1.mono bb.size)).trans ((Below.refl _ _).grown hg9 (Nat.le_trans bb.size hb1.size) (fun g hg => by injection hg with hg; omega)))
    obtain ⟨c0, c1, _, _⟩ := Blk.two BB9
    refine any_done (by kernel_rfl) ?_
    go_wp2
    exact bodyPost_ret (v := .agg #[.bool (ngB (x)), .slice A9 (digs 10000 (x).natAbs).length c9]) (by simp [results, Tryz.results87, go_sem, c0, c1]) rfl ⟨_, rfl, isR_mk k9 rfl rfl, bb9⟩
set_option maxHeartbeats 1600000 in
set_option maxRecDepth 100000 in
theorem rback_any (a0 : Value) (x : Int) (w : World) (h0 : IsR w a0 x) (hl : lenZ x ≤ 30000) :
    Calls Tryz.prog 65 #[a0] w (RetZ x w) := by
  obtain ⟨u0, rfl, s0⟩ := h0
  obtain ⟨A0, c0, rfl, _⟩ := id s0
  have HL : Hid ((digs 4294967296 x.natAbs).length ≤ 100000) := by show _ ≤ _; unfold lenZ at hl; omega
  have HM : Hid ((digs 10000 x.natAbs).length ≤ 100000) := by show _ ≤ _; have := lenZ_dec x; omega
  go_enter Tryz.func65, Tryz.ntmps65
  go_upto_region 1 with (fail)
  obtain ⟨wx, hwx, bb, B0, B1, hsz⟩ := vars2 w 53 42 #[.bool (ngB x), .slice A0 (digs 10000 (x).natAbs).length c0] #[.bool false, .slice none 0 0]
  rw [hwx]
  clear hwx
  have k0s := s0.below bb
  have k0 : IsR wx (.agg #[.bool (ngB x), .slice A0 (digs 10000 (x).natAbs).length c0]) (x) := isR_mk k0s rfl rfl
  have hszb := bb.size
  refine flow 6 [Pd.eq (.pointer (some ⟨w.heap.size, 0, none⟩)), Pd.eq (.bool (ngB x)), Pd.eq (.pointer (some ⟨w.heap.size, 1, none⟩)), Pd.eq (.slice A0 (digs 10000 (x).natAbs).length c0), ps .u64 (digs 4294967296 x.natAbs) wx.heap.size, pz (x) wx.heap.size] (by kernel_rfl) (by kernel_rfl) ?ob4 ?done4
  case ob4 =>
    refine And.intro (ob_fieldAddr rfl (wt_none rfl) (ev_far rfl rfl) (fun _ => by kernel_rfl) (fun _ => rfl)) ?_
    refine And.intro (ob_load rfl (wt_none rfl) (ev_dep (j := 0) (by kernel_rfl) rfl rfl) (fun w2 hb => run_load1 Tryz.underlying4 rfl ((B0.drew.below hb).cell 0)) (fun _ _ => rfl)) ?_
    refine And.intro (ob_fieldAddr rfl (wt_none rfl) (ev_far rfl rfl) (fun _ => by kernel_rfl) (fun _ => rfl)) ?_
    refine And.intro (ob_load rfl (wt_none rfl) (ev_dep (j := 2) (by kernel_rfl) rfl rfl) (fun w2 hb => run_load1 Tryz.underlying51 rfl ((B0.drew.below hb).cell 1)) (fun _ _ => rfl)) ?_
    refine And.intro (ob_call1 rfl Tryz.func66 (by kernel_rfl) (wt_none rfl) (ev_dep (j := 3) (by kernel_rfl) rfl rfl) (fun w2 u0 hb h0 => by obtain rfl := h0; exact (refBack_any _ _ _ (k0s.drew.below hb) HM.out HL.out).mono fun e w3 h => RetS.pd h hb.size)) ?_
    refine And.intro (ob_build2 rfl (wt_none rfl) (ev_dep (j := 1) (by kernel_rfl) rfl rfl) (ev_dep (j := 4) (by kernel_rfl) rfl rfl) (fun w2 u v hu hv => by subst hu; obtain ⟨A7, c7, rfl, _⟩ := id hv.1; exact ⟨.agg #[.bool (ngB x), .slice A7 (digs 4294967296 x.natAbs).length c7], by kernel_rfl, ⟨⟨_, rfl, hv.1⟩, freshZ_mk hv.2⟩⟩)) ?_
    trivial
  case done4 =>
    refine fun w1 hb1 v0 h0 v1 h1 v2 h2 v3 h3 v4 h4 v5 h5 b hbf => ?_
    obtain rfl := h0; obtain rfl := h1; obtain rfl := h2; obtain rfl := h3
    obtain ⟨q4, f4⟩ := h4
    obtain ⟨q5, f5⟩ := h5
    simp only [Act.put, List.setIfInBounds_toArray, List.set_cons_zero, List.set_cons_succ] at hbf
    subst hbf
    obtain ⟨u5, rfl, q5⟩ := q5
    obtain ⟨A9, c9, rfl, _⟩ := id q5
    have B9 := B1.below hb1
    refine any_store (i := 6) (by kernel_rfl) rfl rfl rfl rfl rfl rfl (cells := [.bool (ngB (x)), .slice A9 (digs 4294967296 (x).natAbs).length c9]) rfl B9 rfl (by kernel_rfl) (one2 rfl rfl) fun w9 hg9 BB9 => ?_
    have k9 := off q5 B9 no_ints2 hg9
    have f9 := (f5 _ _ rfl).mono (show w.heap.size ≤ wx.heap.size from bb.size)
    have bb9 := ((bb.trans (hb1.mono bb.size)).trans ((Below.refl _ _).grown hg9 (Nat.le_trans bb.size hb1.size) (fun g hg => by injection hg with hg; omega)))
    obtain ⟨c0, c1, _, _⟩ := Blk.two BB9
    refine any_done (by kernel_rfl) ?_
    go_wp2
    exact bodyPost_ret (v := .agg #[.bool (ngB (x)), .slice A9 (digs 4294967296 (x).natAbs).length c9]) (by simp [results, Tryz.results65, go_sem, c0, c1]) rfl ⟨_, rfl, isZ_mk k9 rfl rfl, freshZ_mk f9, bb9⟩
set_option maxHeartbeats 1600000 in
set_option maxRecDepth 100000 in
theorem rmul_any (a0 : Value) (x : Int) (a1 : Value) (y : Int) (w : World) (h0 : IsR w a0 x) (h1 : IsR w a1 y) (hl : lenZ x ≤ 30000) (hl2 : lenZ y ≤ 30000) :
    Calls Tryz.prog 111 #[a0, a1] w (RetR (x * y) w) := by
  obtain ⟨u0, rfl, s0⟩ := h0
  obtain ⟨A0, c0, rfl, _⟩ := id s0
  obtain ⟨u1, rfl, s1⟩ := h1
  obtain ⟨A1, c1, rfl, _⟩ := id s1
  have HZ : Hid (sg (!(ngB x == ngB y)) (x.natAbs * y.natAbs) = x * y) := by show _ = _; exact sg_mul x y
  have HL : Hid ((digs 10000 x.natAbs).length ≤ 1000000) := by show _ ≤ _; have := lenZ_dec x; omega
  have HL2 : Hid ((digs 10000 y.natAbs).length ≤ 1000000) := by show _ ≤ _; have := lenZ_dec y; omega
  go_enter Tryz.func111, Tryz.ntmps111
  go_upto_region 1 with (fail)
  obtain ⟨wx, hwx, bb, B0, B1, B2, hsz⟩ := vars3 w 53 53 53 #[.bool (ngB x), .slice A0 (digs 10000 (x).natAbs).length c0] #[.bool (ngB y), .slice A1 (digs 10000 (y).natAbs).length c1] #[.bool false, .slice none 0 0]
  rw [hwx]
  clear hwx
  have k0s := s0.below bb
  have k0 : IsR wx (.agg #[.bool (ngB x), .slice A0 (digs 10000 (x).natAbs).length c0]) (x) := isR_mk k0s rfl rfl
  have k1s := s1.below bb
  have k1 : IsR wx (.agg #[.bool (ngB y), .slice A1 (digs 10000 (y).natAbs).length c1]) (y) := isR_mk k1s rfl rfl
  have hszb := bb.size
  refine flow 11 [Pd.eq (.pointer (some ⟨w.heap.size, 0, none⟩)), Pd.eq (.bool (ngB x)), Pd.eq (.pointer (some ⟨w.heap.size + 1, 0, none⟩)), Pd.eq (.bool (ngB y)), Pd.eq (.bool (!((ngB x) == (ngB y)))), Pd.eq (.pointer (some ⟨w.heap.size, 1, none⟩)), Pd.eq (.slice A0 (digs 10000 (x).natAbs).length c0), Pd.eq (.pointer (some ⟨w.heap.size + 1, 1, none⟩)), Pd.eq (.slice A1 (digs 10000 (y).natAbs).length c1), ps .i64 (digs 10000 (x.natAbs * y.natAbs)) wx.heap.size, pr (x * y)] (by kernel_rfl) (by kernel_rfl) ?ob5 ?done5
  case ob5 =>
    refine And.intro (ob_fieldAddr rfl (wt_none rfl) (ev_far rfl rfl) (fun _ => by kernel_rfl) (fun _ => rfl)) ?_
    refine And.intro (ob_load rfl (wt_none rfl) (ev_dep (j := 0) (by kernel_rfl) rfl rfl) (fun w2 hb => run_load1 Tryz.underlying4 rfl ((B0.drew.below hb).cell 0)) (fun _ _ => rfl)) ?_
    refine And.intro (ob_fieldAddr rfl (wt_none rfl) (ev_far rfl rfl) (fun _ => by kernel_rfl) (fun _ => rfl)) ?_
    refine And.intro (ob_load rfl (wt_none rfl) (ev_dep (j := 2) (by kernel_rfl) rfl rfl) (fun w2 hb => run_load1 Tryz.underlying4 rfl ((B1.drew.below hb).cell 0)) (fun _ _ => rfl)) ?_
    refine And.intro (ob_bin rfl (wt_none rfl) (ev_dep (j := 1) (by kernel_rfl) rfl rfl) (ev_dep (j := 3) (by kernel_rfl) rfl rfl) (fun _ _ _ hx hy => ⟨.bool (!((ngB x) == (ngB y))), by rw [hx, hy]; exact bin_neq_bool _ _ _ _ Tryz.underlying4 _, rfl⟩)) ?_
    refine And.intro (ob_fieldAddr rfl (wt_none rfl) (ev_far rfl rfl) (fun _ => by kernel_rfl) (fun _ => rfl)) ?_
    refine And.intro (ob_load rfl (wt_none rfl) (ev_dep (j := 5) (by kernel_rfl) rfl rfl) (fun w2 hb => run_load1 Tryz.underlying51 rfl ((B0.drew.below hb).cell 1)) (fun _ _ => rfl)) ?_
    refine And.intro (ob_fieldAddr rfl (wt_none rfl) (ev_far rfl rfl) (fun _ => by kernel_rfl) (fun _ => rfl)) ?_
    refine And.intro (ob_load rfl (wt_none rfl) (ev_dep (j := 7) (by kernel_rfl) rfl rfl) (fun w2 hb => run_load1 Tryz.underlying51 rfl ((B1.drew.below hb).cell 1)) (fun _ _ => rfl)) ?_
    refine And.intro (ob_call2 rfl Tryz.func112 (by kernel_rfl) (wt_none rfl) (ev_dep (j := 6) (by kernel_rfl) rfl rfl) (ev_dep (j := 8) (by kernel_rfl) rfl rfl) (fun w2 u0 u1 hb h0 h1 => by obtain rfl := h0; obtain rfl := h1; exact (refMul_any _ _ _ _ _ (k0s.drew.below hb) (k1s.drew.below hb) HL.out HL2.out).mono fun e w3 h => RetS.pd h hb.size)) ?_
    refine And.intro (ob_call2 rfl Tryz.func134 (by kernel_rfl) (wt_none rfl) (ev_dep (j := 4) (by kernel_rfl) rfl rfl) (ev_dep (j := 9) (by kernel_rfl) rfl rfl) (fun w2 u0 u1 hb h0 h1 => by obtain rfl := h0; exact made_pd _ _ _ (x * y) _ h1.1 HZ.out)) ?_
    trivial
  case done5 =>
    refine fun w1 hb1 v0 h0 v1 h1 v2 h2 v3 h3 v4 h4 v5 h5 v6 h6 v7 h7 v8 h8 v9 h9 v10 h10 b hbf => ?_
    obtain rfl := h0; obtain rfl := h1; obtain rfl := h2; obtain rfl := h3; obtain rfl := h4; obtain rfl := h5; obtain rfl := h6; obtain rfl := h7; obtain rfl := h8
    obtain ⟨q9, f9⟩ := h9
    have q10 := h10
    simp only [Act.put, List.setIfInBounds_toArray, List.set_cons_zero, List.set_cons_succ] at hbf
    subst hbf
    obtain ⟨u10, rfl, q10⟩ := q10
    obtain ⟨A9, c9, rfl, _⟩ := id q10
    have B9 := B2.below hb1
    refine any_store (i := 11) (by kernel_rfl) rfl rfl rfl rfl rfl rfl (cells := [.bool (ngB (x * y)), .slice A9 (digs 10000 (x * y).natAbs).length c9]) rfl B9 rfl (by kernel_rfl) (one2 rfl rfl) fun w9 hg9 BB9 => ?_
    have k9 := off q10 B9 no_ints2 hg9
    have bb9 := ((bb.trans (hb1.mono bb.size)).trans ((Below.refl _ _).grown hg9 (Nat.le_trans bb.size hb1.size) (fun g hg => by injection hg with hg; omega)))
    obtain ⟨c0, c1, _, _⟩ := Blk.two BB9
    refine any_done (by kernel_rfl) ?_
    go_wp2
    exact bodyPost_ret (v := .agg #[.bool (ngB (x * y)), .slice A9 (digs 10000 (x * y).natAbs).length c9]) (by simp [results, Tryz.results111, go_sem, c0, c1]) rfl ⟨_, rfl, isR_mk k9 rfl rfl, bb9⟩
set_option maxHeartbeats 1600000 in
set_option maxRecDepth 100000 in
theorem zadd_any (a0 : Value) (x : Int) (a1 : Value) (y : Int) (w : World) (h0 : IsZ w a0 x) (h1 : IsZ w a1 y) (hl : lenZ x ≤ 30000) (hl2 : lenZ y ≤ 30000) :
    Calls Tryz.prog 136 #[a0, a1] w (RetZ (x + y) w) := by
  have HL : Hid ((digs 4294967296 x.natAbs).length ≤ 30000) := hl
  have HL2 : Hid ((digs 4294967296 y.natAbs).length ≤ 30000) := hl2
  have HS : Hid ((digs 4294967296 (x.natAbs + y.natAbs)).length ≤ 1000000) := by show _ ≤ _; have := add_len x.natAbs y.natAbs; unfold lenZ at hl hl2; omega
  obtain ⟨u0, rfl, s0⟩ := h0
  obtain ⟨A0, c0, rfl, _⟩ := id s0
  obtain ⟨u1, rfl, s1⟩ := h1
  obtain ⟨A1, c1, rfl, _⟩ := id s1
  rcases hs0 : ngB x with _ | _ <;> rcases hs1 : ngB y with _ | _
  · have HZ : Hid (sg false (x.natAbs + y.natAbs) = x + y) := by show _ = _; have := ngB_false hs0; have := ngB_false hs1; rw [sg_false]; omega
    go_enter Tryz.func136, Tryz.ntmps136
    go_upto_region 1 with (fail)
    obtain ⟨wx, hwx, bb, B0, B1, B2, hsz⟩ := vars3 w 42 42 42 #[.bool false, .slice A0 (digs 4294967296 (x).natAbs).length c0] #[.bool false, .slice A1 (digs 4294967296 (y).natAbs).length c1] #[.bool false, .slice none 0 0]
    rw [hwx]
    clear hwx
    have k0s := s0.below bb
    have k0 : IsZ wx (.agg #[.bool false, .slice A0 (digs 4294967296 (x).natAbs).length c0]) (x) := isZ_mk k0s rfl hs0.symm
    have k1s := s1.below bb
    have k1 : IsZ wx (.agg #[.bool false, .slice A1 (digs 4294967296 (y).natAbs).length c1]) (y) := isZ_mk k1s rfl hs1.symm
    have hszb := bb.size
    refine flowp 6 [Pd.eq (.pointer (some ⟨w.heap.size, 0, none⟩)), Pd.eq (.bool false), Pd.eq (.pointer (some ⟨w.heap.size + 1, 0, none⟩)), Pd.eq (.bool false), Pd.eq (.bool true), Pd.eq (.bool true)] (by kernel_rfl) ?ob6 ?done6
    case ob6 =>
      refine And.intro (ob_fieldAddr rfl (wt_none rfl) (ev_far rfl rfl) (fun _ => by kernel_rfl) (fun _ => rfl)) ?_
      refine And.intro (ob_load rfl (wt_none rfl) (ev_dep (j := 0) (by kernel_rfl) rfl rfl) (fun w2 hb => run_load1 Tryz.underlying4 rfl ((B0.below hb).cell 0)) (fun _ _ => rfl)) ?_
      refine And.intro (ob_fieldAddr rfl (wt_none rfl) (ev_far rfl rfl) (fun _ => by kernel_rfl) (fun _ => rfl)) ?_
      refine And.intro (ob_load rfl (wt_none rfl) (ev_dep (j := 2) (by kernel_rfl) rfl rfl) (fun w2 hb => run_load1 Tryz.underlying4 rfl ((B1.below hb).cell 0)) (fun _ _ => rfl)) ?_
      refine And.intro (ob_bin rfl (wt_none rfl) (ev_dep (j := 1) (by kernel_rfl) rfl rfl) (ev_dep (j := 3) (by kernel_rfl) rfl rfl) (fun _ _ _ hx hy => ⟨.bool (false == false), by rw [hx, hy]; exact bin_eql_bool _ _ _ _ Tryz.underlying4 _, rfl⟩)) ?_
      refine And.intro (ob_assign rfl (wt_none rfl) (ev_dep (j := 4) (by kernel_rfl) rfl rfl) (fun _ _ h => h)) ?_
      trivial
    case done6 =>
      refine fun w1 hb1 v0 h0 v1 h1 v2 h2 v3 h3 v4 h4 v5 h5 b hbf => ?_
      obtain rfl := h0; obtain rfl := h1; obtain rfl := h2; obtain rfl := h3; obtain rfl := h4; obtain rfl := h5
      simp only [Act.put, List.setIfInBounds_toArray, List.set_cons_zero, List.set_cons_succ] at hbf
      subst hbf
      replace B0 := B0.below hb1
      replace B1 := B1.below hb1
      replace B2 := B2.below hb1
      replace k0s := k0s.below hb1
      replace k1s := k1s.below hb1
      replace k0 := k0.below hb1
      replace k1 := k1.below hb1
      replace bb := bb.trans (hb1.mono bb.size)
      have hszb := bb.size
      obtain ⟨x00, x01, y00, y01⟩ := Blk.two B0
      obtain ⟨x10, x11, y10, y11⟩ := Blk.two B1
      obtain ⟨x20, x21, y20, y21⟩ := Blk.two B2
      refine ops_done ?_
      go_upto_region 2 with (fail)
      refine flow 8 [Pd.eq (.pointer (some ⟨w.heap.size, 0, none⟩)), Pd.eq (.bool false), Pd.eq (.pointer (some ⟨w.heap.size, 1, none⟩)), Pd.eq (.slice A0 (digs 4294967296 (x).natAbs).length c0), Pd.eq (.pointer (some ⟨w.heap.size + 1, 1, none⟩)), Pd.eq (.slice A1 (digs 4294967296 (y).natAbs).length c1), ps .u64 (digs 4294967296 (x.natAbs + y.natAbs)) w1.heap.size, pz (x + y) w1.heap.size] (by kernel_rfl) (by kernel_rfl) ?ob7 ?done7
      case ob7 =>
        refine And.intro (ob_fieldAddr rfl (wt_none rfl) (ev_far rfl rfl) (fun _ => by kernel_rfl) (fun _ => rfl)) ?_
        refine And.intro (ob_load rfl (wt_none rfl) (ev_dep (j := 0) (by kernel_rfl) rfl rfl) (fun w2 hb => run_load1 Tryz.underlying4 rfl ((B0.drew.below hb).cell 0)) (fun _ _ => rfl)) ?_
        refine And.intro (ob_fieldAddr rfl (wt_none rfl) (ev_far rfl rfl) (fun _ => by kernel_rfl) (fun _ => rfl)) ?_
        refine And.intro (ob_load rfl (wt_none rfl) (ev_dep (j := 2) (by kernel_rfl) rfl rfl) (fun w2 hb => run_load1 Tryz.underlying40 rfl ((B0.drew.below hb).cell 1)) (fun _ _ => rfl)) ?_
        refine And.intro (ob_fieldAddr rfl (wt_none rfl) (ev_far rfl rfl) (fun _ => by kernel_rfl) (fun _ => rfl)) ?_
        refine And.intro (ob_load rfl (wt_none rfl) (ev_dep (j := 4) (by kernel_rfl) rfl rfl) (fun w2 hb => run_load1 Tryz.underlying40 rfl ((B1.drew.below hb).cell 1)) (fun _ _ => rfl)) ?_
        refine And.intro (ob_call2 rfl Tryz.func154 (by kernel_rfl) (wt_none rfl) (ev_dep (j := 3) (by kernel_rfl) rfl rfl) (ev_dep (j := 5) (by kernel_rfl) rfl rfl) (fun w2 u0 u1 hb h0 h1 => by obtain rfl := h0; obtain rfl := h1; exact (add_any _ _ _ _ _ (k0s.drew.below hb) (k1s.drew.below hb) _ rfl HS.out).mono fun e w3 h => RetS.pd h hb.size)) ?_
        refine And.intro (ob_call2 rfl Tryz.func125 (by kernel_rfl) (wt_none rfl) (ev_dep (j := 1) (by kernel_rfl) rfl rfl) (ev_dep (j := 6) (by kernel_rfl) rfl rfl) (fun w2 u0 u1 hb h0 h1 => by obtain rfl := h0; exact signed_pd _ _ _ (x + y) _ h1.1 h1.2 HZ.out)) ?_
        trivial
      case done7 =>
        refine fun w2 hb2 v0 h0 v1 h1 v2 h2 v3 h3 v4 h4 v5 h5 v6 h6 v7 h7 b hbf => ?_
        obtain rfl := h0; obtain rfl := h1; obtain rfl := h2; obtain rfl := h3; obtain rfl := h4; obtain rfl := h5
        obtain ⟨q6, f6⟩ := h6
        obtain ⟨q7, f7⟩ := h7
        simp only [Act.put, List.setIfInBounds_toArray, List.set_cons_zero, List.set_cons_succ] at hbf
        subst hbf
        obtain ⟨u7, rfl, q7⟩ := q7
        obtain ⟨A9, c9, rfl, _⟩ := id q7
        have B9 := B2.below hb2
        refine any_store (i := 8) (by kernel_rfl) rfl rfl rfl rfl rfl rfl (cells := [.bool (ngB (x + y)), .slice A9 (digs 4294967296 (x + y).natAbs).length c9]) rfl B9 rfl (by kernel_rfl) (one2 rfl rfl) fun w9 hg9 BB9 => ?_
        have k9 := off q7 B9 no_ints2 hg9
        have f9 := (f7 _ _ rfl).mono (show w.heap.size ≤ w1.heap.size from bb.size)
        have bb9 := ((bb.trans (hb2.mono bb.size)).trans ((Below.refl _ _).grown hg9 (Nat.le_trans bb.size hb2.size) (fun g hg => by injection hg with hg; omega)))
        obtain ⟨c0, c1, _, _⟩ := Blk.two BB9
        refine any_done (by kernel_rfl) ?_
        go_wp2
        exact bodyPost_ret (v := .agg #[.bool (ngB (x + y)), .slice A9 (digs 4294967296 (x + y).natAbs).length c9]) (by simp [results, Tryz.results136, go_sem, c0, c1]) rfl ⟨_, rfl, isZ_mk k9 rfl rfl, freshZ_mk f9, bb9⟩
  · have HZ : Hid (x + y = ((x.natAbs : Nat) : Int) - ((y.natAbs : Nat) : Int)) := by show _ = _; have := ngB_false hs0; have := ngB_true hs1; omega
    go_enter Tryz.func136, Tryz.ntmps136
    go_upto_region 1 with (fail)
    obtain ⟨wx, hwx, bb, B0, B1, B2, hsz⟩ := vars3 w 42 42 42 #[.bool false, .slice A0 (digs 4294967296 (x).natAbs).length c0] #[.bool true, .slice A1 (digs 4294967296 (y).natAbs).length c1] #[.bool false, .slice none 0 0]
    rw [hwx]
    clear hwx
    have k0s := s0.below bb
    have k0 : IsZ wx (.agg #[.bool false, .slice A0 (digs 4294967296 (x).natAbs).length c0]) (x) := isZ_mk k0s rfl hs0.symm
    have k1s := s1.below bb
    have k1 : IsZ wx (.agg #[.bool true, .slice A1 (digs 4294967296 (y).natAbs).length c1]) (y) := isZ_mk k1s rfl hs1.symm
    have hszb := bb.size
    refine flowp 6 [Pd.eq (.pointer (some ⟨w.heap.size, 0, none⟩)), Pd.eq (.bool false), Pd.eq (.pointer (some ⟨w.heap.size + 1, 0, none⟩)), Pd.eq (.bool true), Pd.eq (.bool false), Pd.eq (.bool false)] (by kernel_rfl) ?ob8 ?done8
    case ob8 =>
      refine And.intro (ob_fieldAddr rfl (wt_none rfl) (ev_far rfl rfl) (fun _ => by kernel_rfl) (fun _ => rfl)) ?_
      refine And.intro (ob_load rfl (wt_none rfl) (ev_dep (j := 0) (by kernel_rfl) rfl rfl) (fun w2 hb => run_load1 Tryz.underlying4 rfl ((B0.below hb).cell 0)) (fun _ _ => rfl)) ?_
      refine And.intro (ob_fieldAddr rfl (wt_none rfl) (ev_far rfl rfl) (fun _ => by kernel_rfl) (fun _ => rfl)) ?_
      refine And.intro (ob_load rfl (wt_none rfl) (ev_dep (j := 2) (by kernel_rfl) rfl rfl) (fun w2 hb => run_load1 Tryz.underlying4 rfl ((B1.below hb).cell 0)) (fun _ _ => rfl)) ?_
      refine And.intro (ob_bin rfl (wt_none rfl) (ev_dep (j := 1) (by kernel_rfl) rfl rfl) (ev_dep (j := 3) (by kernel_rfl) rfl rfl) (fun _ _ _ hx hy => ⟨.bool (false == true), by rw [hx, hy]; exact bin_eql_bool _ _ _ _ Tryz.underlying4 _, rfl⟩)) ?_
      refine And.intro (ob_assign rfl (wt_none rfl) (ev_dep (j := 4) (by kernel_rfl) rfl rfl) (fun _ _ h => h)) ?_
      trivial
    case done8 =>
      refine fun w1 hb1 v0 h0 v1 h1 v2 h2 v3 h3 v4 h4 v5 h5 b hbf => ?_
      obtain rfl := h0; obtain rfl := h1; obtain rfl := h2; obtain rfl := h3; obtain rfl := h4; obtain rfl := h5
      simp only [Act.put, List.setIfInBounds_toArray, List.set_cons_zero, List.set_cons_succ] at hbf
      subst hbf
      replace B0 := B0.below hb1
      replace B1 := B1.below hb1
      replace B2 := B2.below hb1
      replace k0s := k0s.below hb1
      replace k1s := k1s.below hb1
      replace k0 := k0.below hb1
      replace k1 := k1.below hb1
      replace bb := bb.trans (hb1.mono bb.size)
      have hszb := bb.size
      obtain ⟨x00, x01, y00, y01⟩ := Blk.two B0
      obtain ⟨x10, x11, y10, y11⟩ := Blk.two B1
      obtain ⟨x20, x21, y20, y21⟩ := Blk.two B2
      refine ops_done ?_
      go_upto_region 5 with (fail)
      refine flowp 5 [Pd.eq (.pointer (some ⟨w.heap.size, 1, none⟩)), Pd.eq (.slice A0 (digs 4294967296 (x).natAbs).length c0), Pd.eq (.pointer (some ⟨w.heap.size + 1, 1, none⟩)), Pd.eq (.slice A1 (digs 4294967296 (y).natAbs).length c1), pz (x + y) w1.heap.size] (by kernel_rfl) ?ob9 ?done9
      case ob9 =>
        refine And.intro (ob_fieldAddr rfl (wt_none rfl) (ev_far rfl rfl) (fun _ => by kernel_rfl) (fun _ => rfl)) ?_
        refine And.intro (ob_load rfl (wt_none rfl) (ev_dep (j := 0) (by kernel_rfl) rfl rfl) (fun w2 hb => run_load1 Tryz.underlying40 rfl ((B0.below hb).cell 1)) (fun _ _ => rfl)) ?_
        refine And.intro (ob_fieldAddr rfl (wt_none rfl) (ev_far rfl rfl) (fun _ => by kernel_rfl) (fun _ => rfl)) ?_
        refine And.intro (ob_load rfl (wt_none rfl) (ev_dep (j := 2) (by kernel_rfl) rfl rfl) (fun w2 hb => run_load1 Tryz.underlying40 rfl ((B1.below hb).cell 1)) (fun _ _ => rfl)) ?_
        refine And.intro (ob_call2 rfl Tryz.func155 (by kernel_rfl) (wt_none rfl) (ev_dep (j := 1) (by kernel_rfl) rfl rfl) (ev_dep (j := 3) (by kernel_rfl) rfl rfl) (fun w2 u0 u1 hb h0 h1 => by obtain rfl := h0; obtain rfl := h1; exact (diff_any _ _ _ _ (x + y) _ (k0s.below hb) (k1s.below hb) (Nat.le_trans HL.out (by decide)) (Nat.le_trans HL2.out (by decide)) HZ.out).mono fun e w3 h => RetZ.pd h hb.size)) ?_
        trivial
      case done9 =>
        refine fun w2 hb2 v0 h0 v1 h1 v2 h2 v3 h3 v4 h4 b hbf => ?_
        obtain rfl := h0; obtain rfl := h1; obtain rfl := h2; obtain rfl := h3
        obtain ⟨q4, f4⟩ := h4
        simp only [Act.put, List.setIfInBounds_toArray, List.set_cons_zero, List.set_cons_succ] at hbf
        subst hbf
        obtain ⟨u4, rfl, q4⟩ := q4
        obtain ⟨A9, c9, rfl, _⟩ := id q4
        have B9 := B2.below hb2
        refine ops_store (i := 5) rfl rfl rfl rfl rfl rfl (cells := [.bool (ngB (x + y)), .slice A9 (digs 4294967296 (x + y).natAbs).length c9]) rfl B9 rfl (by kernel_rfl) (one2 rfl rfl) fun w9 hg9 BB9 => ?_
        have k9 := off q4 B9 no_ints2 hg9
        have f9 := (f4 _ _ rfl).mono (show w.heap.size ≤ w1.heap.size from bb.size)
        have bb9 := ((bb.trans (hb2.mono bb.size)).trans ((Below.refl _ _).grown hg9 (Nat.le_trans bb.size hb2.size) (fun g hg => by injection hg with hg; omega)))
        obtain ⟨c0, c1, _, _⟩ := Blk.two BB9
        refine ops_done ?_
        go_wp2
        exact bodyPost_ret (v := .agg #[.bool (ngB (x + y)), .slice A9 (digs 4294967296 (x + y).natAbs).length c9]) (by simp [results, Tryz.results136, go_sem, c0, c1]) rfl ⟨_, rfl, isZ_mk k9 rfl rfl, freshZ_mk f9, bb9⟩
  · have HZ : Hid (x + y = ((y.natAbs : Nat) : Int) - ((x.natAbs : Nat) : Int)) := by show _ = _; have := ngB_true hs0; have := ngB_false hs1; omega
    go_enter Tryz.func136, Tryz.ntmps136
    go_upto_region 1 with (fail)
    obtain ⟨wx, hwx, bb, B0, B1, B2, hsz⟩ := vars3 w 42 42 42 #[.bool true, .slice A0 (digs 4294967296 (x).natAbs).length c0] #[.bool false, .slice A1 (digs 4294967296 (y).natAbs).length c1] #[.bool false, .slice none 0 0]
    rw [hwx]
    clear hwx
    have k0s := s0.below bb
    have k0 : IsZ wx (.agg #[.bool true, .slice A0 (digs 4294967296 (x).natAbs).length c0]) (x) := isZ_mk k0s rfl hs0.symm
    have k1s := s1.below bb
    have k1 : IsZ wx (.agg #[.bool false, .slice A1 (digs 4294967296 (y).natAbs).length c1]) (y) := isZ_mk k1s rfl hs1.symm
    have hszb := bb.size
    refine flowp 6 [Pd.eq (.pointer (some ⟨w.heap.size, 0, none⟩)), Pd.eq (.bool true), Pd.eq (.pointer (some ⟨w.heap.size + 1, 0, none⟩)), Pd.eq (.bool false), Pd.eq (.bool false), Pd.eq (.bool false)] (by kernel_rfl) ?ob10 ?done10
    case ob10 =>
      refine And.intro (ob_fieldAddr rfl (wt_none rfl) (ev_far rfl rfl) (fun _ => by kernel_rfl) (fun _ => rfl)) ?_
      refine And.intro (ob_load rfl (wt_none rfl) (ev_dep (j := 0) (by kernel_rfl) rfl rfl) (fun w2 hb => run_load1 Tryz.underlying4 rfl ((B0.below hb).cell 0)) (fun _ _ => rfl)) ?_
      refine And.intro (ob_fieldAddr rfl (wt_none rfl) (ev_far rfl rfl) (fun _ => by kernel_rfl) (fun _ => rfl)) ?_
      refine And.intro (ob_load rfl (wt_none rfl) (ev_dep (j := 2) (by kernel_rfl) rfl rfl) (fun w2 hb => run_load1 Tryz.underlying4 rfl ((B1.below hb).cell 0)) (fun _ _ => rfl)) ?_
      refine And.intro (ob_bin rfl (wt_none rfl) (ev_dep (j := 1) (by kernel_rfl) rfl rfl) (ev_dep (j := 3) (by kernel_rfl) rfl rfl) (fun _ _ _ hx hy => ⟨.bool (true == false), by rw [hx, hy]; exact bin_eql_bool _ _ _ _ Tryz.underlying4 _, rfl⟩)) ?_
      refine And.intro (ob_assign rfl (wt_none rfl) (ev_dep (j := 4) (by kernel_rfl) rfl rfl) (fun _ _ h => h)) ?_
      trivial
    case done10 =>
      refine fun w1 hb1 v0 h0 v1 h1 v2 h2 v3 h3 v4 h4 v5 h5 b hbf => ?_
      obtain rfl := h0; obtain rfl := h1; obtain rfl := h2; obtain rfl := h3; obtain rfl := h4; obtain rfl := h5
      simp only [Act.put, List.setIfInBounds_toArray, List.set_cons_zero, List.set_cons_succ] at hbf
      subst hbf
      replace B0 := B0.below hb1
      replace B1 := B1.below hb1
      replace B2 := B2.below hb1
      replace k0s := k0s.below hb1
      replace k1s := k1s.below hb1
      replace k0 := k0.below hb1
      replace k1 := k1.below hb1
      replace bb := bb.trans (hb1.mono bb.size)
      have hszb := bb.size
      obtain ⟨x00, x01, y00, y01⟩ := Blk.two B0
      obtain ⟨x10, x11, y10, y11⟩ := Blk.two B1
      obtain ⟨x20, x21, y20, y21⟩ := Blk.two B2
      refine ops_done ?_
      go_upto_region 4 with (fail)
      refine flowp 5 [Pd.eq (.pointer (some ⟨w.heap.size + 1, 1, none⟩)), Pd.eq (.slice A1 (digs 4294967296 (y).natAbs).length c1), Pd.eq (.pointer (some ⟨w.heap.size, 1, none⟩)), Pd.eq (.slice A0 (digs 4294967296 (x).natAbs).length c0), pz (x + y) w1.heap.size] (by kernel_rfl) ?ob11 ?done11
      case ob11 =>
        refine And.intro (ob_fieldAddr rfl (wt_none rfl) (ev_far rfl rfl) (fun _ => by kernel_rfl) (fun _ => rfl)) ?_
        refine And.intro (ob_load rfl (wt_none rfl) (ev_dep (j := 0) (by kernel_rfl) rfl rfl) (fun w2 hb => run_load1 Tryz.underlying40 rfl ((B1.below hb).cell 1)) (fun _ _ => rfl)) ?_
        refine And.intro (ob_fieldAddr rfl (wt_none rfl) (ev_far rfl rfl) (fun _ => by kernel_rfl) (fun _ => rfl)) ?_
        refine And.intro (ob_load rfl (wt_none rfl) (ev_dep (j := 2) (by kernel_rfl) rfl rfl) (fun w2 hb => run_load1 Tryz.underlying40 rfl ((B0.below hb).cell 1)) (fun _ _ => rfl)) ?_
        refine And.intro (ob_call2 rfl Tryz.func155 (by kernel_rfl) (wt_none rfl) (ev_dep (j := 1) (by kernel_rfl) rfl rfl) (ev_dep (j := 3) (by kernel_rfl) rfl rfl) (fun w2 u0 u1 hb h0 h1 => by obtain rfl := h0; obtain rfl := h1; exact (diff_any _ _ _ _ (x + y) _ (k1s.below hb) (k0s.below hb) (Nat.le_trans HL2.out (by decide)) (Nat.le_trans HL.out (by decide)) HZ.out).mono fun e w3 h => RetZ.pd h hb.size)) ?_
        trivial
      case done11 =>
        refine fun w2 hb2 v0 h0 v1 h1 v2 h2 v3 h3 v4 h4 b hbf => ?_
        obtain rfl := h0; obtain rfl := h1; obtain rfl := h2; obtain rfl := h3
        obtain ⟨q4, f4⟩ := h4
        simp only [Act.put, List.setIfInBounds_toArray, List.set_cons_zero, List.set_cons_succ] at hbf
        subst hbf
        obtain ⟨u4, rfl, q4⟩ := q4
        obtain ⟨A9, c9, rfl, _⟩ := id q4
        have B9 := B2.below hb2
        refine ops_store (i := 5) rfl rfl rfl rfl rfl rfl (cells := [.bool (ngB (x + y)), .slice A9 (digs 4294967296 (x + y).natAbs).length c9]) rfl B9 rfl (by kernel_rfl) (one2 rfl rfl) fun w9 hg9 BB9 => ?_
        have k9 := off q4 B9 no_ints2 hg9
        have f9 := (f4 _ _ rfl).mono (show w.heap.size ≤ w1.heap.size from bb.size)
        have bb9 := ((bb.trans (hb2.mono bb.size)).trans ((Below.refl _ _).grown hg9 (Nat.le_trans bb.size hb2.size) (fun g hg => by injection hg with hg; omega)))
        obtain ⟨c0, c1, _, _⟩ := Blk.two BB9
        refine ops_done ?_
        go_wp2
        exact bodyPost_ret (v := .agg #[.bool (ngB (x + y)), .slice A9 (digs 4294967296 (x + y).natAbs).length c9]) (by simp [results, Tryz.results136, go_sem, c0, c1]) rfl ⟨_, rfl, isZ_mk k9 rfl rfl, freshZ_mk f9, bb9⟩
  · have HZ : Hid (sg true (x.natAbs + y.natAbs) = x + y) := by show _ = _; have := ngB_true hs0; have := ngB_true hs1; rw [sg_true]; omega
    go_enter Tryz.func136, Tryz.ntmps136
    go_upto_region 1 with (fail)
    obtain ⟨wx, hwx, bb, B0, B1, B2, hsz⟩ := vars3 w 42 42 42 #[.bool true, .slice A0 (digs 4294967296 (x).natAbs).length c0] #[.bool true, .slice A1 (digs 4294967296 (y).natAbs).length c1] #[.bool false, .slice none 0 0]
    rw [hwx]
    clear hwx
    have k0s := s0.below bb
    have k0 : IsZ wx (.agg #[.bool true, .slice A0 (digs 4294967296 (x).natAbs).length c0]) (x) := isZ_mk k0s rfl hs0.symm
    have k1s := s1.below bb
    have k1 : IsZ wx (.agg #[.bool true, .slice A1 (digs 4294967296 (y).natAbs).length c1]) (y) := isZ_mk k1s rfl hs1.symm
    have hszb := bb.size
    refine flowp 6 [Pd.eq (.pointer (some ⟨w.heap.size, 0, none⟩)), Pd.eq (.bool true), Pd.eq (.pointer (some ⟨w.heap.size + 1, 0, none⟩)), Pd.eq (.bool true), Pd.eq (.bool true), Pd.eq (.bool true)] (by kernel_rfl) ?ob12 ?done12
    case ob12 =>
      refine And.intro (ob_fieldAddr rfl (wt_none rfl) (ev_far rfl rfl) (fun _ => by kernel_rfl) (fun _ => rfl)) ?_
      refine And.intro (ob_load rfl (wt_none rfl) (ev_dep (j := 0) (by kernel_rfl) rfl rfl) (fun w2 hb => run_load1 Tryz.underlying4 rfl ((B0.below hb).cell 0)) (fun _ _ => rfl)) ?_
      refine And.intro (ob_fieldAddr rfl (wt_none rfl) (ev_far rfl rfl) (fun _ => by kernel_rfl) (fun _ => rfl)) ?_
      refine And.intro (ob_load rfl (wt_none rfl) (ev_dep (j := 2) (by kernel_rfl) rfl rfl) (fun w2 hb => run_load1 Tryz.underlying4 rfl ((B1.below hb).cell 0)) (fun _ _ => rfl)) ?_
      refine And.intro (ob_bin rfl (wt_none rfl) (ev_dep (j := 1) (by kernel_rfl) rfl rfl) (ev_dep (j := 3) (by kernel_rfl) rfl rfl) (fun _ _ _ hx hy => ⟨.bool (true == true), by rw [hx, hy]; exact bin_eql_bool _ _ _ _ Tryz.underlying4 _, rfl⟩)) ?_
      refine And.intro (ob_assign rfl (wt_none rfl) (ev_dep (j := 4) (by kernel_rfl) rfl rfl) (fun _ _ h => h)) ?_
      trivial
    case done12 =>
      refine fun w1 hb1 v0 h0 v1 h1 v2 h2 v3 h3 v4 h4 v5 h5 b hbf => ?_
      obtain rfl := h0; obtain rfl := h1; obtain rfl := h2; obtain rfl := h3; obtain rfl := h4; obtain rfl := h5
      simp only [Act.put, List.setIfInBounds_toArray, List.set_cons_zero, List.set_cons_succ] at hbf
      subst hbf
      replace B0 := B0.below hb1
      replace B1 := B1.below hb1
      replace B2 := B2.below hb1
      replace k0s := k0s.below hb1
      replace k1s := k1s.below hb1
      replace k0 := k0.below hb1
      replace k1 := k1.below hb1
      replace bb := bb.trans (hb1.mono bb.size)
      have hszb := bb.size
      obtain ⟨x00, x01, y00, y01⟩ := Blk.two B0
      obtain ⟨x10, x11, y10, y11⟩ := Blk.two B1
      obtain ⟨x20, x21, y20, y21⟩ := Blk.two B2
      refine ops_done ?_
      go_upto_region 2 with (fail)
      refine flow 8 [Pd.eq (.pointer (some ⟨w.heap.size, 0, none⟩)), Pd.eq (.bool true), Pd.eq (.pointer (some ⟨w.heap.size, 1, none⟩)), Pd.eq (.slice A0 (digs 4294967296 (x).natAbs).length c0), Pd.eq (.pointer (some ⟨w.heap.size + 1, 1, none⟩)), Pd.eq (.slice A1 (digs 4294967296 (y).natAbs).length c1), ps .u64 (digs 4294967296 (x.natAbs + y.natAbs)) w1.heap.size, pz (x + y) w1.heap.size] (by kernel_rfl) (by kernel_rfl) ?ob13 ?done13
      case ob13 =>
        refine And.intro (ob_fieldAddr rfl (wt_none rfl) (ev_far rfl rfl) (fun _ => by kernel_rfl) (fun _ => rfl)) ?_
        refine And.intro (ob_load rfl (wt_none rfl) (ev_dep (j := 0) (by kernel_rfl) rfl rfl) (fun w2 hb => run_load1 Tryz.underlying4 rfl ((B0.drew.below hb).cell 0)) (fun _ _ => rfl)) ?_
        refine And.intro (ob_fieldAddr rfl (wt_none rfl) (ev_far rfl rfl) (fun _ => by kernel_rfl) (fun _ => rfl)) ?_
        refine And.intro (ob_load rfl (wt_none rfl) (ev_dep (j := 2) (by kernel_rfl) rfl rfl) (fun w2 hb => run_load1 Tryz.underlying40 rfl ((B0.drew.below hb).cell 1)) (fun _ _ => rfl)) ?_
        refine And.intro (ob_fieldAddr rfl (wt_none rfl) (ev_far rfl rfl) (fun _ => by kernel_rfl) (fun _ => rfl)) ?_
        refine And.intro (ob_load rfl (wt_none rfl) (ev_dep (j := 4) (by kernel_rfl) rfl rfl) (fun w2 hb => run_load1 Tryz.underlying40 rfl ((B1.drew.below hb).cell 1)) (fun _ _ => rfl)) ?_
        refine And.intro (ob_call2 rfl Tryz.func154 (by kernel_rfl) (wt_none rfl) (ev_dep (j := 3) (by kernel_rfl) rfl rfl) (ev_dep (j := 5) (by kernel_rfl) rfl rfl) (fun w2 u0 u1 hb h0 h1 => by obtain rfl := h0; obtain rfl := h1; exact (add_any _ _ _ _ _ (k0s.drew.below hb) (k1s.drew.below hb) _ rfl HS.out).mono fun e w3 h => RetS.pd h hb.size)) ?_
        refine And.intro (ob_call2 rfl Tryz.func125 (by kernel_rfl) (wt_none rfl) (ev_dep (j := 1) (by kernel_rfl) rfl rfl) (ev_dep (j := 6) (by kernel_rfl) rfl rfl) (fun w2 u0 u1 hb h0 h1 => by obtain rfl := h0; exact signed_pd _ _ _ (x + y) _ h1.1 h1.2 HZ.out)) ?_
        trivial
      case done13 =>
        refine fun w2 hb2 v0 h0 v1 h1 v2 h2 v3 h3 v4 h4 v5 h5 v6 h6 v7 h7 b hbf => ?_
        obtain rfl := h0; obtain rfl := h1; obtain rfl := h2; obtain rfl := h3; obtain rfl := h4; obtain rfl := h5
        obtain ⟨q6, f6⟩ := h6
        obtain ⟨q7, f7⟩ := h7
        simp only [Act.put, List.setIfInBounds_toArray, List.set_cons_zero, List.set_cons_succ] at hbf
        subst hbf
        obtain ⟨u7, rfl, q7⟩ := q7
        obtain ⟨A9, c9, rfl, _⟩ := id q7
        have B9 := B2.below hb2
        refine any_store (i := 8) (by kernel_rfl) rfl rfl rfl rfl rfl rfl (cells := [.bool (ngB (x + y)), .slice A9 (digs 4294967296 (x + y).natAbs).length c9]) rfl B9 rfl (by kernel_rfl) (one2 rfl rfl) fun w9 hg9 BB9 => ?_
        have k9 := off q7 B9 no_ints2 hg9
        have f9 := (f7 _ _ rfl).mono (show w.heap.size ≤ w1.heap.size from bb.size)
        have bb9 := ((bb.trans (hb2.mono bb.size)).trans ((Below.refl _ _).grown hg9 (Nat.le_trans bb.size hb2.size) (fun g hg => by injection hg with hg; omega)))
        obtain ⟨c0, c1, _, _⟩ := Blk.two BB9
        refine any_done (by kernel_rfl) ?_
        go_wp2
        exact bodyPost_ret (v := .agg #[.bool (ngB (x + y)), .slice A9 (digs 4294967296 (x + y).natAbs).length c9]) (by simp [results, Tryz.results136, go_sem, c0, c1]) rfl ⟨_, rfl, isZ_mk k9 rfl rfl, freshZ_mk f9, bb9⟩
set_option maxHeartbeats 1600000 in
set_option maxRecDepth 100000 in
theorem radd_any (a0 : Value) (x : Int) (a1 : Value) (y : Int) (w : World) (h0 : IsR w a0 x) (h1 : IsR w a1 y) (hl : lenZ x ≤ 30000) (hl2 : lenZ y ≤ 30000) :
    Calls Tryz.prog 114 #[a0, a1] w (RetR (x + y) w) := by
  have HL : Hid ((digs 10000 x.natAbs).length ≤ 1000000) := Nat.le_trans (lenZ_dec x) (by omega)
  have HL2 : Hid ((digs 10000 y.natAbs).length ≤ 1000000) := Nat.le_trans (lenZ_dec y) (by omega)
  obtain ⟨u0, rfl, s0⟩ := h0
  obtain ⟨A0, c0, rfl, _⟩ := id s0
  obtain ⟨u1, rfl, s1⟩ := h1
  obtain ⟨A1, c1, rfl, _⟩ := id s1
  rcases hs0 : ngB x with _ | _ <;> rcases hs1 : ngB y with _ | _
  · have HZ : Hid (sg false (x.natAbs + y.natAbs) = x + y) := by show _ = _; have := ngB_false hs0; have := ngB_false hs1; rw [sg_false]; omega
    go_enter Tryz.func114, Tryz.ntmps114
    go_upto_region 1 with (fail)
    obtain ⟨wx, hwx, bb, B0, B1, B2, hsz⟩ := vars3 w 53 53 53 #[.bool false, .slice A0 (digs 10000 (x).natAbs).length c0] #[.bool false, .slice A1 (digs 10000 (y).natAbs).length c1] #[.bool false, .slice none 0 0]
    rw [hwx]
    clear hwx
    have k0s := s0.below bb
    have k0 : IsR wx (.agg #[.bool false, .slice A0 (digs 10000 (x).natAbs).length c0]) (x) := isR_mk k0s rfl hs0.symm
    have k1s := s1.below bb
    have k1 : IsR wx (.agg #[.bool false, .slice A1 (digs 10000 (y).natAbs).length c1]) (y) := isR_mk k1s rfl hs1.symm
    have hszb := bb.size
    refine flowp 5 [Pd.eq (.pointer (some ⟨w.heap.size, 0, none⟩)), Pd.eq (.bool false), Pd.eq (.pointer (some ⟨w.heap.size + 1, 0, none⟩)), Pd.eq (.bool false), Pd.eq (.bool true)] (by kernel_rfl) ?ob14 ?done14
    case ob14 =>
      refine And.intro (ob_fieldAddr rfl (wt_none rfl) (ev_far rfl rfl) (fun _ => by kernel_rfl) (fun _ => rfl)) ?_
      refine And.intro (ob_load rfl (wt_none rfl) (ev_dep (j := 0) (by kernel_rfl) rfl rfl) (fun w2 hb => run_load1 Tryz.underlying4 rfl ((B0.below hb).cell 0)) (fun _ _ => rfl)) ?_
      refine And.intro (ob_fieldAddr rfl (wt_none rfl) (ev_far rfl rfl) (fun _ => by kernel_rfl) (fun _ => rfl)) ?_
      refine And.intro (ob_load rfl (wt_none rfl) (ev_dep (j := 2) (by kernel_rfl) rfl rfl) (fun w2 hb => run_load1 Tryz.underlying4 rfl ((B1.below hb).cell 0)) (fun _ _ => rfl)) ?_
      refine And.intro (ob_bin rfl (wt_none rfl) (ev_dep (j := 1) (by kernel_rfl) rfl rfl) (ev_dep (j := 3) (by kernel_rfl) rfl rfl) (fun _ _ _ hx hy => ⟨.bool (false == false), by rw [hx, hy]; exact bin_eql_bool _ _ _ _ Tryz.underlying4 _, rfl⟩)) ?_
      trivial
    case done14 =>
      refine fun w1 hb1 v0 h0 v1 h1 v2 h2 v3 h3 v4 h4 b hbf => ?_
      obtain rfl := h0; obtain rfl := h1; obtain rfl := h2; obtain rfl := h3; obtain rfl := h4
      simp only [Act.put, List.setIfInBounds_toArray, List.set_cons_zero, List.set_cons_succ] at hbf
      subst hbf
      replace B0 := B0.below hb1
      replace B1 := B1.below hb1
      replace B2 := B2.below hb1
      replace k0s := k0s.below hb1
      replace k1s := k1s.below hb1
      replace k0 := k0.below hb1
      replace k1 := k1.below hb1
      replace bb := bb.trans (hb1.mono bb.size)
      have hszb := bb.size
      obtain ⟨x00, x01, y00, y01⟩ := Blk.two B0
      obtain ⟨x10, x11, y10, y11⟩ := Blk.two B1
      obtain ⟨x20, x21, y20, y21⟩ := Blk.two B2
      refine ops_done ?_
      go_upto_region 2 with (fail)
      refine flow 8 [Pd.eq (.pointer (some ⟨w.heap.size, 0, none⟩)), Pd.eq (.bool false), Pd.eq (.pointer (some ⟨w.heap.size, 1, none⟩)), Pd.eq (.slice A0 (digs 10000 (x).natAbs).length c0), Pd.eq (.pointer (some ⟨w.heap.size + 1, 1, none⟩)), Pd.eq (.slice A1 (digs 10000 (y).natAbs).length c1), ps .i64 (digs 10000 (x.natAbs + y.natAbs)) w1.heap.size, pr (x + y)] (by kernel_rfl) (by kernel_rfl) ?ob15 ?done15
      case ob15 =>
        refine And.intro (ob_fieldAddr rfl (wt_none rfl) (ev_far rfl rfl) (fun _ => by kernel_rfl) (fun _ => rfl)) ?_
        refine And.intro (ob_load rfl (wt_none rfl) (ev_dep (j := 0) (by kernel_rfl) rfl rfl) (fun w2 hb => run_load1 Tryz.underlying4 rfl ((B0.drew.below hb).cell 0)) (fun _ _ => rfl)) ?_
        refine And.intro (ob_fieldAddr rfl (wt_none rfl) (ev_far rfl rfl) (fun _ => by kernel_rfl) (fun _ => rfl)) ?_
        refine And.intro (ob_load rfl (wt_none rfl) (ev_dep (j := 2) (by kernel_rfl) rfl rfl) (fun w2 hb => run_load1 Tryz.underlying51 rfl ((B0.drew.below hb).cell 1)) (fun _ _ => rfl)) ?_
        refine And.intro (ob_fieldAddr rfl (wt_none rfl) (ev_far rfl rfl) (fun _ => by kernel_rfl) (fun _ => rfl)) ?_
        refine And.intro (ob_load rfl (wt_none rfl) (ev_dep (j := 4) (by kernel_rfl) rfl rfl) (fun w2 hb => run_load1 Tryz.underlying51 rfl ((B1.drew.below hb).cell 1)) (fun _ _ => rfl)) ?_
        refine And.intro (ob_call2 rfl Tryz.func143 (by kernel_rfl) (wt_none rfl) (ev_dep (j := 3) (by kernel_rfl) rfl rfl) (ev_dep (j := 5) (by kernel_rfl) rfl rfl) (fun w2 u0 u1 hb h0 h1 => by obtain rfl := h0; obtain rfl := h1; exact (refAdd_any _ _ _ _ _ (k0s.drew.below hb) (k1s.drew.below hb) HL.out HL2.out).mono fun e w3 h => RetS.pd h hb.size)) ?_
        refine And.intro (ob_call2 rfl Tryz.func134 (by kernel_rfl) (wt_none rfl) (ev_dep (j := 1) (by kernel_rfl) rfl rfl) (ev_dep (j := 6) (by kernel_rfl) rfl rfl) (fun w2 u0 u1 hb h0 h1 => by obtain rfl := h0; exact made_pd _ _ _ (x + y) _ h1.1 HZ.out)) ?_
        trivial
      case done15 =>
        refine fun w2 hb2 v0 h0 v1 h1 v2 h2 v3 h3 v4 h4 v5 h5 v6 h6 v7 h7 b hbf => ?_
        obtain rfl := h0; obtain rfl := h1; obtain rfl := h2; obtain rfl := h3; obtain rfl := h4; obtain rfl := h5
        obtain ⟨q6, f6⟩ := h6
        have q7 := h7
        simp only [Act.put, List.setIfInBounds_toArray, List.set_cons_zero, List.set_cons_succ] at hbf
        subst hbf
        obtain ⟨u7, rfl, q7⟩ := q7
        obtain ⟨A9, c9, rfl, _⟩ := id q7
        have B9 := B2.below hb2
        refine any_store (i := 8) (by kernel_rfl) rfl rfl rfl rfl rfl rfl (cells := [.bool (ngB (x + y)), .slice A9 (digs 10000 (x + y).natAbs).length c9]) rfl B9 rfl (by kernel_rfl) (one2 rfl rfl) fun w9 hg9 BB9 => ?_
        have k9 := off q7 B9 no_ints2 hg9
        have bb9 := ((bb.trans (hb2.mono bb.size)).trans ((Below.refl _ _).grown hg9 (Nat.le_trans bb.size hb2.size) (fun g hg => by injection hg with hg; omega)))
        obtain ⟨c0, c1, _, _⟩ := Blk.two BB9
        refine any_done (by kernel_rfl) ?_
        go_wp2
        exact bodyPost_ret (v := .agg #[.bool (ngB (x + y)), .slice A9 (digs 10000 (x + y).natAbs).length c9]) (by simp [results, Tryz.results114, go_sem, c0, c1]) rfl ⟨_, rfl, isR_mk k9 rfl rfl, bb9⟩
  · by_cases hle : y.natAbs ≤ x.natAbs
    · have HZ : Hid (sg false (x.natAbs - y.natAbs) = x + y) := by show _ = _; have := ngB_false hs0; have := ngB_true hs1; rw [sg_false]; omega
      have HO : Hid ((0 : Int) ≤ ord x.natAbs y.natAbs) := by show (0 : Int) ≤ _; have := ord_neg x.natAbs y.natAbs; have h3 := @ord_le0 y.natAbs x.natAbs; have h4 := @ord_lt0 x.natAbs y.natAbs; omega
      have HLE : Hid (y.natAbs ≤ x.natAbs) := by show _ ≤ _; omega
      clear hle
      go_enter Tryz.func114, Tryz.ntmps114
      go_upto_region 1 with (fail)
      obtain ⟨wx, hwx, bb, B0, B1, B2, hsz⟩ := vars3 w 53 53 53 #[.bool false, .slice A0 (digs 10000 (x).natAbs).length c0] #[.bool true, .slice A1 (digs 10000 (y).natAbs).length c1] #[.bool false, .slice none 0 0]
      rw [hwx]
      clear hwx
      have k0s := s0.below bb
      have k0 : IsR wx (.agg #[.bool false, .slice A0 (digs 10000 (x).natAbs).length c0]) (x) := isR_mk k0s rfl hs0.symm
      have k1s := s1.below bb
      have k1 : IsR wx (.agg #[.bool true, .slice A1 (digs 10000 (y).natAbs).length c1]) (y) := isR_mk k1s rfl hs1.symm
      have hszb := bb.size
      refine flowp 5 [Pd.eq (.pointer (some ⟨w.heap.size, 0, none⟩)), Pd.eq (.bool false), Pd.eq (.pointer (some ⟨w.heap.size + 1, 0, none⟩)), Pd.eq (.bool true), Pd.eq (.bool false)] (by kernel_rfl) ?ob16 ?done16
      case ob16 =>
        refine And.intro (ob_fieldAddr rfl (wt_none rfl) (ev_far rfl rfl) (fun _ => by kernel_rfl) (fun _ => rfl)) ?_
        refine And.intro (ob_load rfl (wt_none rfl) (ev_dep (j := 0) (by kernel_rfl) rfl rfl) (fun w2 hb => run_load1 Tryz.underlying4 rfl ((B0.below hb).cell 0)) (fun _ _ => rfl)) ?_
        refine And.intro (ob_fieldAddr rfl (wt_none rfl) (ev_far rfl rfl) (fun _ => by kernel_rfl) (fun _ => rfl)) ?_
        refine And.intro (ob_load rfl (wt_none rfl) (ev_dep (j := 2) (by kernel_rfl) rfl rfl) (fun w2 hb => run_load1 Tryz.underlying4 rfl ((B1.below hb).cell 0)) (fun _ _ => rfl)) ?_
        refine And.intro (ob_bin rfl (wt_none rfl) (ev_dep (j := 1) (by kernel_rfl) rfl rfl) (ev_dep (j := 3) (by kernel_rfl) rfl rfl) (fun _ _ _ hx hy => ⟨.bool (false == true), by rw [hx, hy]; exact bin_eql_bool _ _ _ _ Tryz.underlying4 _, rfl⟩)) ?_
        trivial
      case done16 =>
        refine fun w1 hb1 v0 h0 v1 h1 v2 h2 v3 h3 v4 h4 b hbf => ?_
        obtain rfl := h0; obtain rfl := h1; obtain rfl := h2; obtain rfl := h3; obtain rfl := h4
        simp only [Act.put, List.setIfInBounds_toArray, List.set_cons_zero, List.set_cons_succ] at hbf
        subst hbf
        replace B0 := B0.below hb1
        replace B1 := B1.below hb1
        replace B2 := B2.below hb1
        replace k0s := k0s.below hb1
        replace k1s := k1s.below hb1
        replace k0 := k0.below hb1
        replace k1 := k1.below hb1
        replace bb := bb.trans (hb1.mono bb.size)
        have hszb := bb.size
        obtain ⟨x00, x01, y00, y01⟩ := Blk.two B0
        obtain ⟨x10, x11, y10, y11⟩ := Blk.two B1
        obtain ⟨x20, x21, y20, y21⟩ := Blk.two B2
        refine ops_done ?_
        go_upto_region 3 with (fail)
        refine flowp 6 [Pd.eq (.pointer (some ⟨w.heap.size, 1, none⟩)), Pd.eq (.slice A0 (digs 10000 (x).natAbs).length c0), Pd.eq (.pointer (some ⟨w.heap.size + 1, 1, none⟩)), Pd.eq (.slice A1 (digs 10000 (y).natAbs).length c1), Pd.eq (.int .i64 (ord x.natAbs y.natAbs)), Pd.eq (.bool true)] (by kernel_rfl) ?ob17 ?done17
        case ob17 =>
          refine And.intro (ob_fieldAddr rfl (wt_none rfl) (ev_far rfl rfl) (fun _ => by kernel_rfl) (fun _ => rfl)) ?_
          refine And.intro (ob_load rfl (wt_none rfl) (ev_dep (j := 0) (by kernel_rfl) rfl rfl) (fun w2 hb => run_load1 Tryz.underlying51 rfl ((B0.below hb).cell 1)) (fun _ _ => rfl)) ?_
          refine And.intro (ob_fieldAddr rfl (wt_none rfl) (ev_far rfl rfl) (fun _ => by kernel_rfl) (fun _ => rfl)) ?_
          refine And.intro (ob_load rfl (wt_none rfl) (ev_dep (j := 2) (by kernel_rfl) rfl rfl) (fun w2 hb => run_load1 Tryz.underlying51 rfl ((B1.below hb).cell 1)) (fun _ _ => rfl)) ?_
          refine And.intro (ob_call2 rfl Tryz.func144 (by kernel_rfl) (wt_none rfl) (ev_dep (j := 1) (by kernel_rfl) rfl rfl) (ev_dep (j := 3) (by kernel_rfl) rfl rfl) (fun w2 u0 u1 hb h0 h1 => by obtain rfl := h0; obtain rfl := h1; exact (refCmp_at _ _ _ _ _ _ (k0s.below hb) (k1s.below hb) rfl).mono fun e w3 h => RetV.pd h)) ?_
          refine And.intro (ob_bin rfl (wt_none rfl) (ev_dep (j := 4) (by kernel_rfl) rfl rfl) (ev_const _) (fun _ _ _ hx hy => ⟨_, by rw [hx, hy]; exact bin_geq_int _ _ _ _ _, congrArg Value.bool (decide_eq_true HO.out)⟩)) ?_
          trivial
        case done17 =>
          refine fun w2 hb2 v0 h0 v1 h1 v2 h2 v3 h3 v4 h4 v5 h5 b hbf => ?_
          obtain rfl := h0; obtain rfl := h1; obtain rfl := h2; obtain rfl := h3; obtain rfl := h4; obtain rfl := h5
          simp only [Act.put, List.setIfInBounds_toArray, List.set_cons_zero, List.set_cons_succ] at hbf
          subst hbf
          replace B0 := B0.below hb2
          replace B1 := B1.below hb2
          replace B2 := B2.below hb2
          replace k0s := k0s.below hb2
          replace k1s := k1s.below hb2
          replace k0 := k0.below hb2
          replace k1 := k1.below hb2
          replace bb := bb.trans (hb2.mono bb.size)
          have hszb := bb.size
          obtain ⟨x00, x01, y00, y01⟩ := Blk.two B0
          obtain ⟨x10, x11, y10, y11⟩ := Blk.two B1
          obtain ⟨x20, x21, y20, y21⟩ := Blk.two B2
          refine ops_done ?_
          go_upto_region 4 with (fail)
          refine flow 8 [Pd.eq (.pointer (some ⟨w.heap.size, 0, none⟩)), Pd.eq (.bool false), Pd.eq (.pointer (some ⟨w.heap.size, 1, none⟩)), Pd.eq (.slice A0 (digs 10000 (x).natAbs).length c0), Pd.eq (.pointer (some ⟨w.heap.size + 1, 1, none⟩)), Pd.eq (.slice A1 (digs 10000 (y).natAbs).length c1), ps .i64 (digs 10000 (x.natAbs - y.natAbs)) w2.heap.size, pr (x + y)] (by kernel_rfl) (by kernel_rfl) ?ob18 ?done18
          case ob18 =>
            refine And.intro (ob_fieldAddr rfl (wt_none rfl) (ev_far rfl rfl) (fun _ => by kernel_rfl) (fun _ => rfl)) ?_
            refine And.intro (ob_load rfl (wt_none rfl) (ev_dep (j := 0) (by kernel_rfl) rfl rfl) (fun w2 hb => run_load1 Tryz.underlying4 rfl ((B0.drew.below hb).cell 0)) (fun _ _ => rfl)) ?_
            refine And.intro (ob_fieldAddr rfl (wt_none rfl) (ev_far rfl rfl) (fun _ => by kernel_rfl) (fun _ => rfl)) ?_
            refine And.intro (ob_load rfl (wt_none rfl) (ev_dep (j := 2) (by kernel_rfl) rfl rfl) (fun w2 hb => run_load1 Tryz.underlying51 rfl ((B0.drew.below hb).cell 1)) (fun _ _ => rfl)) ?_
            refine And.intro (ob_fieldAddr rfl (wt_none rfl) (ev_far rfl rfl) (fun _ => by kernel_rfl) (fun _ => rfl)) ?_
            refine And.intro (ob_load rfl (wt_none rfl) (ev_dep (j := 4) (by kernel_rfl) rfl rfl) (fun w2 hb => run_load1 Tryz.underlying51 rfl ((B1.drew.below hb).cell 1)) (fun _ _ => rfl)) ?_
            refine And.intro (ob_call2 rfl Tryz.func145 (by kernel_rfl) (wt_none rfl) (ev_dep (j := 3) (by kernel_rfl) rfl rfl) (ev_dep (j := 5) (by kernel_rfl) rfl rfl) (fun w2 u0 u1 hb h0 h1 => by obtain rfl := h0; obtain rfl := h1; exact (refSub_any _ _ _ _ _ (k0s.drew.below hb) (k1s.drew.below hb) HL.out HLE.out _ rfl).mono fun e w3 h => RetS.pd h hb.size)) ?_
            refine And.intro (ob_call2 rfl Tryz.func134 (by kernel_rfl) (wt_none rfl) (ev_dep (j := 1) (by kernel_rfl) rfl rfl) (ev_dep (j := 6) (by kernel_rfl) rfl rfl) (fun w2 u0 u1 hb h0 h1 => by obtain rfl := h0; exact made_pd _ _ _ (x + y) _ h1.1 HZ.out)) ?_
            trivial
          case done18 =>
            refine fun w3 hb3 v0 h0 v1 h1 v2 h2 v3 h3 v4 h4 v5 h5 v6 h6 v7 h7 b hbf => ?_
            obtain rfl := h0; obtain rfl := h1; obtain rfl := h2; obtain rfl := h3; obtain rfl := h4; obtain rfl := h5
            obtain ⟨q6, f6⟩ := h6
            have q7 := h7
            simp only [Act.put, List.setIfInBounds_toArray, List.set_cons_zero, List.set_cons_succ] at hbf
            subst hbf
            obtain ⟨u7, rfl, q7⟩ := q7
            obtain ⟨A9, c9, rfl, _⟩ := id q7
            have B9 := B2.below hb3
            refine any_store (i := 8) (by kernel_rfl) rfl rfl rfl rfl rfl rfl (cells := [.bool (ngB (x + y)), .slice A9 (digs 10000 (x + y).natAbs).length c9]) rfl B9 rfl (by kernel_rfl) (one2 rfl rfl) fun w9 hg9 BB9 => ?_
            have k9 := off q7 B9 no_ints2 hg9
            have bb9 := ((bb.trans (hb3.mono bb.size)).trans ((Below.refl _ _).grown hg9 (Nat.le_trans bb.size hb3.size) (fun g hg => by injection hg with hg; omega)))
            obtain ⟨c0, c1, _, _⟩ := Blk.two BB9
            refine any_done (by kernel_rfl) ?_
            go_wp2
            exact bodyPost_ret (v := .agg #[.bool (ngB (x + y)), .slice A9 (digs 10000 (x + y).natAbs).length c9]) (by simp [results, Tryz.results114, go_sem, c0, c1]) rfl ⟨_, rfl, isR_mk k9 rfl rfl, bb9⟩
    · have HZ : Hid (sg true (y.natAbs - x.natAbs) = x + y) := by show _ = _; have := ngB_false hs0; have := ngB_true hs1; rw [sg_true]; omega
      have HO : Hid (¬ (0 : Int) ≤ ord x.natAbs y.natAbs) := by show ¬ _; have := ord_neg x.natAbs y.natAbs; have h3 := @ord_le0 y.natAbs x.natAbs; have h4 := @ord_lt0 x.natAbs y.natAbs; omega
      have HLE : Hid (x.natAbs ≤ y.natAbs) := by show _ ≤ _; omega
      clear hle
      go_enter Tryz.func114, Tryz.ntmps114
      go_upto_region 1 with (fail)
      obtain ⟨wx, hwx, bb, B0, B1, B2, hsz⟩ := vars3 w 53 53 53 #[.bool false, .slice A0 (digs 10000 (x).natAbs).length c0] #[.bool true, .slice A1 (digs 10000 (y).natAbs).length c1] #[.bool false, .slice none 0 0]
      rw [hwx]
      clear hwx
      have k0s := s0.below bb
      have k0 : IsR wx (.agg #[.bool false, .slice A0 (digs 10000 (x).natAbs).length c0]) (x) := isR_mk k0s rfl hs0.symm
      have k1s := s1.below bb
      have k1 : IsR wx (.agg #[.bool true, .slice A1 (digs 10000 (y).natAbs).length c1]) (y) := isR_mk k1s rfl hs1.symm
      have hszb := bb.size
      refine flowp 5 [Pd.eq (.pointer (some ⟨w.heap.size, 0, none⟩)), Pd.eq (.bool false), Pd.eq (.pointer (some ⟨w.heap.size + 1, 0, none⟩)), Pd.eq (.bool true), Pd.eq (.bool false)] (by kernel_rfl) ?ob19 ?done19
      case ob19 =>
        refine And.intro (ob_fieldAddr rfl (wt_none rfl) (ev_far rfl rfl) (fun _ => by kernel_rfl) (fun _ => rfl)) ?_
        refine And.intro (ob_load rfl (wt_none rfl) (ev_dep (j := 0) (by kernel_rfl) rfl rfl) (fun w2 hb => run_load1 Tryz.underlying4 rfl ((B0.below hb).cell 0)) (fun _ _ => rfl)) ?_
        refine And.intro (ob_fieldAddr rfl (wt_none rfl) (ev_far rfl rfl) (fun _ => by kernel_rfl) (fun _ => rfl)) ?_
        refine And.intro (ob_load rfl (wt_none rfl) (ev_dep (j := 2) (by kernel_rfl) rfl rfl) (fun w2 hb => run_load1 Tryz.underlying4 rfl ((B1.below hb).cell 0)) (fun _ _ => rfl)) ?_
        refine And.intro (ob_bin rfl (wt_none rfl) (ev_dep (j := 1) (by kernel_rfl) rfl rfl) (ev_dep (j := 3) (by kernel_rfl) rfl rfl) (fun _ _ _ hx hy => ⟨.bool (false == true), by rw [hx, hy]; exact bin_eql_bool _ _ _ _ Tryz.underlying4 _, rfl⟩)) ?_
        trivial
      case done19 =>
        refine fun w1 hb1 v0 h0 v1 h1 v2 h2 v3 h3 v4 h4 b hbf => ?_
        obtain rfl := h0; obtain rfl := h1; obtain rfl := h2; obtain rfl := h3; obtain rfl := h4
        simp only [Act.put, List.setIfInBounds_toArray, List.set_cons_zero, List.set_cons_succ] at hbf
        subst hbf
        replace B0 := B0.below hb1
        replace B1 := B1.below hb1
        replace B2 := B2.below hb1
        replace k0s := k0s.below hb1
        replace k1s := k1s.below hb1
        replace k0 := k0.below hb1
        replace k1 := k1.below hb1
        replace bb := bb.trans (hb1.mono bb.size)
        have hszb := bb.size
        obtain ⟨x00, x01, y00, y01⟩ := Blk.two B0
        obtain ⟨x10, x11, y10, y11⟩ := Blk.two B1
        obtain ⟨x20, x21, y20, y21⟩ := Blk.two B2
        refine ops_done ?_
        go_upto_region 3 with (fail)
        refine flowp 6 [Pd.eq (.pointer (some ⟨w.heap.size, 1, none⟩)), Pd.eq (.slice A0 (digs 10000 (x).natAbs).length c0), Pd.eq (.pointer (some ⟨w.heap.size + 1, 1, none⟩)), Pd.eq (.slice A1 (digs 10000 (y).natAbs).length c1), Pd.eq (.int .i64 (ord x.natAbs y.natAbs)), Pd.eq (.bool false)] (by kernel_rfl) ?ob20 ?done20
        case ob20 =>
          refine And.intro (ob_fieldAddr rfl (wt_none rfl) (ev_far rfl rfl) (fun _ => by kernel_rfl) (fun _ => rfl)) ?_
          refine And.intro (ob_load rfl (wt_none rfl) (ev_dep (j := 0) (by kernel_rfl) rfl rfl) (fun w2 hb => run_load1 Tryz.underlying51 rfl ((B0.below hb).cell 1)) (fun _ _ => rfl)) ?_
          refine And.intro (ob_fieldAddr rfl (wt_none rfl) (ev_far rfl rfl) (fun _ => by kernel_rfl) (fun _ => rfl)) ?_
          refine And.intro (ob_load rfl (wt_none rfl) (ev_dep (j := 2) (by kernel_rfl) rfl rfl) (fun w2 hb => run_load1 Tryz.underlying51 rfl ((B1.below hb).cell 1)) (fun _ _ => rfl)) ?_
          refine And.intro (ob_call2 rfl Tryz.func144 (by kernel_rfl) (wt_none rfl) (ev_dep (j := 1) (by kernel_rfl) rfl rfl) (ev_dep (j := 3) (by kernel_rfl) rfl rfl) (fun w2 u0 u1 hb h0 h1 => by obtain rfl := h0; obtain rfl := h1; exact (refCmp_at _ _ _ _ _ _ (k0s.below hb) (k1s.below hb) rfl).mono fun e w3 h => RetV.pd h)) ?_
          refine And.intro (ob_bin rfl (wt_none rfl) (ev_dep (j := 4) (by kernel_rfl) rfl rfl) (ev_const _) (fun _ _ _ hx hy => ⟨_, by rw [hx, hy]; exact bin_geq_int _ _ _ _ _, congrArg Value.bool (decide_eq_false HO.out)⟩)) ?_
          trivial
        case done20 =>
          refine fun w2 hb2 v0 h0 v1 h1 v2 h2 v3 h3 v4 h4 v5 h5 b hbf => ?_
          obtain rfl := h0; obtain rfl := h1; obtain rfl := h2; obtain rfl := h3; obtain rfl := h4; obtain rfl := h5
          simp only [Act.put, List.setIfInBounds_toArray, List.set_cons_zero, List.set_cons_succ] at hbf
          subst hbf
          replace B0 := B0.below hb2
          replace B1 := B1.below hb2
          replace B2 := B2.below hb2
          replace k0s := k0s.below hb2
          replace k1s := k1s.below hb2
          replace k0 := k0.below hb2
          replace k1 := k1.below hb2
          replace bb := bb.trans (hb2.mono bb.size)
          have hszb := bb.size
          obtain ⟨x00, x01, y00, y01⟩ := Blk.two B0
          obtain ⟨x10, x11, y10, y11⟩ := Blk.two B1
          obtain ⟨x20, x21, y20, y21⟩ := Blk.two B2
          refine ops_done ?_
          go_upto_region 5 with (fail)
          refine flow 8 [Pd.eq (.pointer (some ⟨w.heap.size + 1, 0, none⟩)), Pd.eq (.bool true), Pd.eq (.pointer (some ⟨w.heap.size + 1, 1, none⟩)), Pd.eq (.slice A1 (digs 10000 (y).natAbs).length c1), Pd.eq (.pointer (some ⟨w.heap.size, 1, none⟩)), Pd.eq (.slice A0 (digs 10000 (x).natAbs).length c0), ps .i64 (digs 10000 (y.natAbs - x.natAbs)) w2.heap.size, pr (x + y)] (by kernel_rfl) (by kernel_rfl) ?ob21 ?done21
          case ob21 =>
            refine And.intro (ob_fieldAddr rfl (wt_none rfl) (ev_far rfl rfl) (fun _ => by kernel_rfl) (fun _ => rfl)) ?_
            refine And.intro (ob_load rfl (wt_none rfl) (ev_dep (j := 0) (by kernel_rfl) rfl rfl) (fun w2 hb => run_load1 Tryz.underlying4 rfl ((B1.drew.below hb).cell 0)) (fun _ _ => rfl)) ?_
            refine And.intro (ob_fieldAddr rfl (wt_none rfl) (ev_far rfl rfl) (fun _ => by kernel_rfl) (fun _ => rfl)) ?_
            refine And.intro (ob_load rfl (wt_none rfl) (ev_dep (j := 2) (by kernel_rfl) rfl rfl) (fun w2 hb => run_load1 Tryz.underlying51 rfl ((B1.drew.below hb).cell 1)) (fun _ _ => rfl)) ?_
            refine And.intro (ob_fieldAddr rfl (wt_none rfl) (ev_far rfl rfl) (fun _ => by kernel_rfl) (fun _ => rfl)) ?_
            refine And.intro (ob_load rfl (wt_none rfl) (ev_dep (j := 4) (by kernel_rfl) rfl rfl) (fun w2 hb => run_load1 Tryz.underlying51 rfl ((B0.drew.below hb).cell 1)) (fun _ _ => rfl)) ?_
            refine And.intro (ob_call2 rfl Tryz.func145 (by kernel_rfl) (wt_none rfl) (ev_dep (j := 3) (by kernel_rfl) rfl rfl) (ev_dep (j := 5) (by kernel_rfl) rfl rfl) (fun w2 u0 u1 hb h0 h1 => by obtain rfl := h0; obtain rfl := h1; exact (refSub_any _ _ _ _ _ (k1s.drew.below hb) (k0s.drew.below hb) HL2.out HLE.out _ rfl).mono fun e w3 h => RetS.pd h hb.size)) ?_
            refine And.intro (ob_call2 rfl Tryz.func134 (by kernel_rfl) (wt_none rfl) (ev_dep (j := 1) (by kernel_rfl) rfl rfl) (ev_dep (j := 6) (by kernel_rfl) rfl rfl) (fun w2 u0 u1 hb h0 h1 => by obtain rfl := h0; exact made_pd _ _ _ (x + y) _ h1.1 HZ.out)) ?_
            trivial
          case done21 =>
            refine fun w3 hb3 v0 h0 v1 h1 v2 h2 v3 h3 v4 h4 v5 h5 v6 h6 v7 h7 b hbf => ?_
            obtain rfl := h0; obtain rfl := h1; obtain rfl := h2; obtain rfl := h3; obtain rfl := h4; obtain rfl := h5
            obtain ⟨q6, f6⟩ := h6
            have q7 := h7
            simp only [Act.put, List.setIfInBounds_toArray, List.set_cons_zero, List.set_cons_succ] at hbf
            subst hbf
            obtain ⟨u7, rfl, q7⟩ := q7
            obtain ⟨A9, c9, rfl, _⟩ := id q7
            have B9 := B2.below hb3
            refine any_store (i := 8) (by kernel_rfl) rfl rfl rfl rfl rfl rfl (cells := [.bool (ngB (x + y)), .slice A9 (digs 10000 (x + y).natAbs).length c9]) rfl B9 rfl (by kernel_rfl) (one2 rfl rfl) fun w9 hg9 BB9 => ?_
            have k9 := off q7 B9 no_ints2 hg9
            have bb9 := ((bb.trans (hb3.mono bb.size)).trans ((Below.refl _ _).grown hg9 (Nat.le_trans bb.size hb3.size) (fun g hg => by injection hg with hg; omega)))
            obtain ⟨c0, c1, _, _⟩ := Blk.two BB9
            refine any_done (by kernel_rfl) ?_
            go_wp2
            exact bodyPost_ret (v := .agg #[.bool (ngB (x + y)), .slice A9 (digs 10000 (x + y).natAbs).length c9]) (by simp [results, Tryz.results114, go_sem, c0, c1]) rfl ⟨_, rfl, isR_mk k9 rfl rfl, bb9⟩
  · by_cases hle : y.natAbs ≤ x.natAbs
    · have HZ : Hid (sg true (x.natAbs - y.natAbs) = x + y) := by show _ = _; have := ngB_true hs0; have := ngB_false hs1; rw [sg_true]; omega
      have HO : Hid ((0 : Int) ≤ ord x.natAbs y.natAbs) := by show (0 : Int) ≤ _; have := ord_neg x.natAbs y.natAbs; have h3 := @ord_le0 y.natAbs x.natAbs; have h4 := @ord_lt0 x.natAbs y.natAbs; omega
      have HLE : Hid (y.natAbs ≤ x.natAbs) := by show _ ≤ _; omega
      clear hle
      go_enter Tryz.func114, Tryz.ntmps114
      go_upto_region 1 with (fail)
      obtain ⟨wx, hwx, bb, B0, B1, B2, hsz⟩ := vars3 w 53 53 53 #[.bool true, .slice A0 (digs 10000 (x).natAbs).length c0] #[.bool false, .slice A1 (digs 10000 (y).natAbs).length c1] #[.bool false, .slice none 0 0]
      rw [hwx]
      clear hwx
      have k0s := s0.below bb
      have k0 : IsR wx (.agg #[.bool true, .slice A0 (digs 10000 (x).natAbs).length c0]) (x) := isR_mk k0s rfl hs0.symm
      have k1s := s1.below bb
      have k1 : IsR wx (.agg #[.bool false, .slice A1 (digs 10000 (y).natAbs).length c1]) (y) := isR_mk k1s rfl hs1.symm
      have hszb := bb.size
      refine flowp 5 [Pd.eq (.pointer (some ⟨w.heap.size, 0, none⟩)), Pd.eq (.bool true), Pd.eq (.pointer (some ⟨w.heap.size + 1, 0, none⟩)), Pd.eq (.bool false), Pd.eq (.bool false)] (by kernel_rfl) ?ob22 ?done22
      case ob22 =>
        refine And.intro (ob_fieldAddr rfl (wt_none rfl) (ev_far rfl rfl) (fun _ => by kernel_rfl) (fun _ => rfl)) ?_
        refine And.intro (ob_load rfl (wt_none rfl) (ev_dep (j := 0) (by kernel_rfl) rfl rfl) (fun w2 hb => run_load1 Tryz.underlying4 rfl ((B0.below hb).cell 0)) (fun _ _ => rfl)) ?_
        refine And.intro (ob_fieldAddr rfl (wt_none rfl) (ev_far rfl rfl) (fun _ => by kernel_rfl) (fun _ => rfl)) ?_
        refine And.intro (ob_load rfl (wt_none rfl) (ev_dep (j := 2) (by kernel_rfl) rfl rfl) (fun w2 hb => run_load1 Tryz.underlying4 rfl ((B1.below hb).cell 0)) (fun _ _ => rfl)) ?_
        refine And.intro (ob_bin rfl (wt_none rfl) (ev_dep (j := 1) (by kernel_rfl) rfl rfl) (ev_dep (j := 3) (by kernel_rfl) rfl rfl) (fun _ _ _ hx hy => ⟨.bool (true == false), by rw [hx, hy]; exact bin_eql_bool _ _ _ _ Tryz.underlying4 _, rfl⟩)) ?_
        trivial
      case done22 =>
        refine fun w1 hb1 v0 h0 v1 h1 v2 h2 v3 h3 v4 h4 b hbf => ?_
        obtain rfl := h0; obtain rfl := h1; obtain rfl := h2; obtain rfl := h3; obtain rfl := h4
        simp only [Act.put, List.setIfInBounds_toArray, List.set_cons_zero, List.set_cons_succ] at hbf
        subst hbf
        replace B0 := B0.below hb1
        replace B1 := B1.below hb1
        replace B2 := B2.below hb1
        replace k0s := k0s.below hb1
        replace k1s := k1s.below hb1
        replace k0 := k0.below hb1
        replace k1 := k1.below hb1
        replace bb := bb.trans (hb1.mono bb.size)
        have hszb := bb.size
        obtain ⟨x00, x01, y00, y01⟩ := Blk.two B0
        obtain ⟨x10, x11, y10, y11⟩ := Blk.two B1
        obtain ⟨x20, x21, y20, y21⟩ := Blk.two B2
        refine ops_done ?_
        go_upto_region 3 with (fail)
        refine flowp 6 [Pd.eq (.pointer (some ⟨w.heap.size, 1, none⟩)), Pd.eq (.slice A0 (digs 10000 (x).natAbs).length c0), Pd.eq (.pointer (some ⟨w.heap.size + 1, 1, none⟩)), Pd.eq (.slice A1 (digs 10000 (y).natAbs).length c1), Pd.eq (.int .i64 (ord x.natAbs y.natAbs)), Pd.eq (.bool true)] (by kernel_rfl) ?ob23 ?done23
        case ob23 =>
          refine And.intro (ob_fieldAddr rfl (wt_none rfl) (ev_far rfl rfl) (fun _ => by kernel_rfl) (fun _ => rfl)) ?_
          refine And.intro (ob_load rfl (wt_none rfl) (ev_dep (j := 0) (by kernel_rfl) rfl rfl) (fun w2 hb => run_load1 Tryz.underlying51 rfl ((B0.below hb).cell 1)) (fun _ _ => rfl)) ?_
          refine And.intro (ob_fieldAddr rfl (wt_none rfl) (ev_far rfl rfl) (fun _ => by kernel_rfl) (fun _ => rfl)) ?_
          refine And.intro (ob_load rfl (wt_none rfl) (ev_dep (j := 2) (by kernel_rfl) rfl rfl) (fun w2 hb => run_load1 Tryz.underlying51 rfl ((B1.below hb).cell 1)) (fun _ _ => rfl)) ?_
          refine And.intro (ob_call2 rfl Tryz.func144 (by kernel_rfl) (wt_none rfl) (ev_dep (j := 1) (by kernel_rfl) rfl rfl) (ev_dep (j := 3) (by kernel_rfl) rfl rfl) (fun w2 u0 u1 hb h0 h1 => by obtain rfl := h0; obtain rfl := h1; exact (refCmp_at _ _ _ _ _ _ (k0s.below hb) (k1s.below hb) rfl).mono fun e w3 h => RetV.pd h)) ?_
          refine And.intro (ob_bin rfl (wt_none rfl) (ev_dep (j := 4) (by kernel_rfl) rfl rfl) (ev_const _) (fun _ _ _ hx hy => ⟨_, by rw [hx, hy]; exact bin_geq_int _ _ _ _ _, congrArg Value.bool (decide_eq_true HO.out)⟩)) ?_
          trivial
        case done23 =>
          refine fun w2 hb2 v0 h0 v1 h1 v2 h2 v3 h3 v4 h4 v5 h5 b hbf => ?_
          obtain rfl := h0; obtain rfl := h1; obtain rfl := h2; obtain rfl := h3; obtain rfl := h4; obtain rfl := h5
          simp only [Act.put, List.setIfInBounds_toArray, List.set_cons_zero, List.set_cons_succ] at hbf
          subst hbf
          replace B0 := B0.below hb2
          replace B1 := B1.below hb2
          replace B2 := B2.below hb2
          replace k0s := k0s.below hb2
          replace k1s := k1s.below hb2
          replace k0 := k0.below hb2
          replace k1 := k1.below hb2
          replace bb := bb.trans (hb2.mono bb.size)
          have hszb := bb.size
          obtain ⟨x00, x01, y00, y01⟩ := Blk.two B0
          obtain ⟨x10, x11, y10, y11⟩ := Blk.two B1
          obtain ⟨x20, x21, y20, y21⟩ := Blk.two B2
          refine ops_done ?_
          go_upto_region 4 with (fail)
          refine flow 8 [Pd.eq (.pointer (some ⟨w.heap.size, 0, none⟩)), Pd.eq (.bool true), Pd.eq (.pointer (some ⟨w.heap.size, 1, none⟩)), Pd.eq (.slice A0 (digs 10000 (x).natAbs).length c0), Pd.eq (.pointer (some ⟨w.heap.size + 1, 1, none⟩)), Pd.eq (.slice A1 (digs 10000 (y).natAbs).length c1), ps .i64 (digs 10000 (x.natAbs - y.natAbs)) w2.heap.size, pr (x + y)] (by kernel_rfl) (by kernel_rfl) ?ob24 ?done24
          case ob24 =>
            refine And.intro (ob_fieldAddr rfl (wt_none rfl) (ev_far rfl rfl) (fun _ => by kernel_rfl) (fun _ => rfl)) ?_
            refine And.intro (ob_load rfl (wt_none rfl) (ev_dep (j := 0) (by kernel_rfl) rfl rfl) (fun w2 hb => run_load1 Tryz.underlying4 rfl ((B0.drew.below hb).cell 0)) (fun _ _ => rfl)) ?_
            refine And.intro (ob_fieldAddr rfl (wt_none rfl) (ev_far rfl rfl) (fun _ => by kernel_rfl) (fun _ => rfl)) ?_
            refine And.intro (ob_load rfl (wt_none rfl) (ev_dep (j := 2) (by kernel_rfl) rfl rfl) (fun w2 hb => run_load1 Tryz.underlying51 rfl ((B0.drew.below hb).cell 1)) (fun _ _ => rfl)) ?_
            refine And.intro (ob_fieldAddr rfl (wt_none rfl) (ev_far rfl rfl) (fun _ => by kernel_rfl) (fun _ => rfl)) ?_
            refine And.intro (ob_load rfl (wt_none rfl) (ev_dep (j := 4) (by kernel_rfl) rfl rfl) (fun w2 hb => run_load1 Tryz.underlying51 rfl ((B1.drew.below hb).cell 1)) (fun _ _ => rfl)) ?_
            refine And.intro (ob_call2 rfl Tryz.func145 (by kernel_rfl) (wt_none rfl) (ev_dep (j := 3) (by kernel_rfl) rfl rfl) (ev_dep (j := 5) (by kernel_rfl) rfl rfl) (fun w2 u0 u1 hb h0 h1 => by obtain rfl := h0; obtain rfl := h1; exact (refSub_any _ _ _ _ _ (k0s.drew.below hb) (k1s.drew.below hb) HL.out HLE.out _ rfl).mono fun e w3 h => RetS.pd h hb.size)) ?_
            refine And.intro (ob_call2 rfl Tryz.func134 (by kernel_rfl) (wt_none rfl) (ev_dep (j := 1) (by kernel_rfl) rfl rfl) (ev_dep (j := 6) (by kernel_rfl) rfl rfl) (fun w2 u0 u1 hb h0 h1 => by obtain rfl := h0; exact made_pd _ _ _ (x + y) _ h1.1 HZ.out)) ?_
            trivial
          case done24 =>
            refine fun w3 hb3 v0 h0 v1 h1 v2 h2 v3 h3 v4 h4 v5 h5 v6 h6 v7 h7 b hbf => ?_
            obtain rfl := h0; obtain rfl := h1; obtain rfl := h2; obtain rfl := h3; obtain rfl := h4; obtain rfl := h5
            obtain ⟨q6, f6⟩ := h6
            have q7 := h7
            simp only [Act.put, List.setIfInBounds_toArray, List.set_cons_zero, List.set_cons_succ] at hbf
            subst hbf
            obtain ⟨u7, rfl, q7⟩ := q7
            obtain ⟨A9, c9, rfl, _⟩ := id q7
            have B9 := B2.below hb3
            refine any_store (i := 8) (by kernel_rfl) rfl rfl rfl rfl rfl rfl (cells := [.bool (ngB (x + y)), .slice A9 (digs 10000 (x + y).natAbs).length c9]) rfl B9 rfl (by kernel_rfl) (one2 rfl rfl) fun w9 hg9 BB9 => ?_
            have k9 := off q7 B9 no_ints2 hg9
            have bb9 := ((bb.trans (hb3.mono bb.size)).trans ((Below.refl _ _).grown hg9 (Nat.le_trans bb.size hb3.size) (fun g hg => by injection hg with hg; omega)))
            obtain ⟨c0, c1, _, _⟩ := Blk.two BB9
            refine any_done (by kernel_rfl) ?_
            go_wp2
            exact bodyPost_ret (v := .agg #[.bool (ngB (x + y)), .slice A9 (digs 10000 (x + y).natAbs).length c9]) (by simp [results, Tryz.results114, go_sem, c0, c1]) rfl ⟨_, rfl, isR_mk k9 rfl rfl, bb9⟩
    · have HZ : Hid (sg false (y.natAbs - x.natAbs) = x + y) := by show _ = _; have := ngB_true hs0; have := ngB_false hs1; rw [sg_false]; omega
      have HO : Hid (¬ (0 : Int) ≤ ord x.natAbs y.natAbs) := by show ¬ _; have := ord_neg x.natAbs y.natAbs; have h3 := @ord_le0 y.natAbs x.natAbs; have h4 := @ord_lt0 x.natAbs y.natAbs; omega
      have HLE : Hid (x.natAbs ≤ y.natAbs) := by show _ ≤ _; omega
      clear hle
      go_enter Tryz.func114, Tryz.ntmps114
      go_upto_region 1 with (fail)
      obtain ⟨wx, hwx, bb, B0, B1, B2, hsz⟩ := vars3 w 53 53 53 #[.bool true, .slice A0 (digs 10000 (x).natAbs).length c0] #[.bool false, .slice A1 (digs 10000 (y).natAbs).length c1] #[.bool false, .slice none 0 0]
      rw [hwx]
      clear hwx
      have k0s := s0.below bb
      have k0 : IsR wx (.agg #[.bool true, .slice A0 (digs 10000 (x).natAbs).length c0]) (x) := isR_mk k0s rfl hs0.symm
      have k1s := s1.below bb
      have k1 : IsR wx (.agg #[.bool false, .slice A1 (digs 10000 (y).natAbs).length c1]) (y) := isR_mk k1s rfl hs1.symm
      have hszb := bb.size
      refine flowp 5 [Pd.eq (.pointer (some ⟨w.heap.size, 0, none⟩)), Pd.eq (.bool true), Pd.eq (.pointer (some ⟨w.heap.size + 1, 0, none⟩)), Pd.eq (.bool false), Pd.eq (.bool false)] (by kernel_rfl) ?ob25 ?done25
      case ob25 =>
        refine And.intro (ob_fieldAddr rfl (wt_none rfl) (ev_far rfl rfl) (fun _ => by kernel_rfl) (fun _ => rfl)) ?_
        refine And.intro (ob_load rfl (wt_none rfl) (ev_dep (j := 0) (by kernel_rfl) rfl rfl) (fun w2 hb => run_load1 Tryz.underlying4 rfl ((B0.below hb).cell 0)) (fun _ _ => rfl)) ?_
        refine And.intro (ob_fieldAddr rfl (wt_none rfl) (ev_far rfl rfl) (fun _ => by kernel_rfl) (fun _ => rfl)) ?_
        refine And.intro (ob_load rfl (wt_none rfl) (ev_dep (j := 2) (by kernel_rfl) rfl rfl) (fun w2 hb => run_load1 Tryz.underlying4 rfl ((B1.below hb).cell 0)) (fun _ _ => rfl)) ?_
        refine And.intro (ob_bin rfl (wt_none rfl) (ev_dep (j := 1) (by kernel_rfl) rfl rfl) (ev_dep (j := 3) (by kernel_rfl) rfl rfl) (fun _ _ _ hx hy => ⟨.bool (true == false), by rw [hx, hy]; exact bin_eql_bool _ _ _ _ Tryz.underlying4 _, rfl⟩)) ?_
        trivial
      case done25 =>
        refine fun w1 hb1 v0 h0 v1 h1 v2 h2 v3 h3 v4 h4 b hbf => ?_
        obtain rfl := h0; obtain rfl := h1; obtain rfl := h2; obtain rfl := h3; obtain rfl := h4
        simp only [Act.put, List.setIfInBounds_toArray, List.set_cons_zero, List.set_cons_succ] at hbf
        subst hbf
        replace B0 := B0.below hb1
        replace B1 := B1.below hb1
        replace B2 := B2.below hb1
        replace k0s := k0s.below hb1
        replace k1s := k1s.below hb1
        replace k0 := k0.below hb1
        replace k1 := k1.below hb1
        replace bb := bb.trans (hb1.mono bb.size)
        have hszb := bb.size
        obtain ⟨x00, x01, y00, y01⟩ := Blk.two B0
        obtain ⟨x10, x11, y10, y11⟩ := Blk.two B1
        obtain ⟨x20, x21, y20, y21⟩ := Blk.two B2
        refine ops_done ?_
        go_upto_region 3 with (fail)
        refine flowp 6 [Pd.eq (.pointer (some ⟨w.heap.size, 1, none⟩)), Pd.eq (.slice A0 (digs 10000 (x).natAbs).length c0), Pd.eq (.pointer (some ⟨w.heap.size + 1, 1, none⟩)), Pd.eq (.slice A1 (digs 10000 (y).natAbs).length c1), Pd.eq (.int .i64 (ord x.natAbs y.natAbs)), Pd.eq (.bool false)] (by kernel_rfl) ?ob26 ?done26
        case ob26 =>
          refine And.intro (ob_fieldAddr rfl (wt_none rfl) (ev_far rfl rfl) (fun _ => by kernel_rfl) (fun _ => rfl)) ?_
          refine And.intro (ob_load rfl (wt_none rfl) (ev_dep (j := 0) (by kernel_rfl) rfl rfl) (fun w2 hb => run_load1 Tryz.underlying51 rfl ((B0.below hb).cell 1)) (fun _ _ => rfl)) ?_
          refine And.intro (ob_fieldAddr rfl (wt_none rfl) (ev_far rfl rfl) (fun _ => by kernel_rfl) (fun _ => rfl)) ?_
          refine And.intro (ob_load rfl (wt_none rfl) (ev_dep (j := 2) (by kernel_rfl) rfl rfl) (fun w2 hb => run_load1 Tryz.underlying51 rfl ((B1.below hb).cell 1)) (fun _ _ => rfl)) ?_
          refine And.intro (ob_call2 rfl Tryz.func144 (by kernel_rfl) (wt_none rfl) (ev_dep (j := 1) (by kernel_rfl) rfl rfl) (ev_dep (j := 3) (by kernel_rfl) rfl rfl) (fun w2 u0 u1 hb h0 h1 => by obtain rfl := h0; obtain rfl := h1; exact (refCmp_at _ _ _ _ _ _ (k0s.below hb) (k1s.below hb) rfl).mono fun e w3 h => RetV.pd h)) ?_
          refine And.intro (ob_bin rfl (wt_none rfl) (ev_dep (j := 4) (by kernel_rfl) rfl rfl) (ev_const _) (fun _ _ _ hx hy => ⟨_, by rw [hx, hy]; exact bin_geq_int _ _ _ _ _, congrArg Value.bool (decide_eq_false HO.out)⟩)) ?_
          trivial
        case done26 =>
          refine fun w2 hb2 v0 h0 v1 h1 v2 h2 v3 h3 v4 h4 v5 h5 b hbf => ?_
          obtain rfl := h0; obtain rfl := h1; obtain rfl := h2; obtain rfl := h3; obtain rfl := h4; obtain rfl := h5
          simp only [Act.put, List.setIfInBounds_toArray, List.set_cons_zero, List.set_cons_succ] at hbf
          subst hbf
          replace B0 := B0.below hb2
          replace B1 := B1.below hb2
          replace B2 := B2.below hb2
          replace k0s := k0s.below hb2
          replace k1s := k1s.below hb2
          replace k0 := k0.below hb2
          replace k1 := k1.below hb2
          replace bb := bb.trans (hb2.mono bb.size)
          have hszb := bb.size
          obtain ⟨x00, x01, y00, y01⟩ := Blk.two B0
          obtain ⟨x10, x11, y10, y11⟩ := Blk.two B1
          obtain ⟨x20, x21, y20, y21⟩ := Blk.two B2
          refine ops_done ?_
          go_upto_region 5 with (fail)
          refine flow 8 [Pd.eq (.pointer (some ⟨w.heap.size + 1, 0, none⟩)), Pd.eq (.bool false), Pd.eq (.pointer (some ⟨w.heap.size + 1, 1, none⟩)), Pd.eq (.slice A1 (digs 10000 (y).natAbs).length c1), Pd.eq (.pointer (some ⟨w.heap.size, 1, none⟩)), Pd.eq (.slice A0 (digs 10000 (x).natAbs).length c0), ps .i64 (digs 10000 (y.natAbs - x.natAbs)) w2.heap.size, pr (x + y)] (by kernel_rfl) (by kernel_rfl) ?ob27 ?done27
          case ob27 =>
            refine And.intro (ob_fieldAddr rfl (wt_none rfl) (ev_far rfl rfl) (fun _ => by kernel_rfl) (fun _ => rfl)) ?_
            refine And.intro (ob_load rfl (wt_none rfl) (ev_dep (j := 0) (by kernel_rfl) rfl rfl) (fun w2 hb => run_load1 Tryz.underlying4 rfl ((B1.drew.below hb).cell 0)) (fun _ _ => rfl)) ?_
            refine And.intro (ob_fieldAddr rfl (wt_none rfl) (ev_far rfl rfl) (fun _ => by kernel_rfl) (fun _ => rfl)) ?_
            refine And.intro (ob_load rfl (wt_none rfl) (ev_dep (j := 2) (by kernel_rfl) rfl rfl) (fun w2 hb => run_load1 Tryz.underlying51 rfl ((B1.drew.below hb).cell 1)) (fun _ _ => rfl)) ?_
            refine And.intro (ob_fieldAddr rfl (wt_none rfl) (ev_far rfl rfl) (fun _ => by kernel_rfl) (fun _ => rfl)) ?_
            refine And.intro (ob_load rfl (wt_none rfl) (ev_dep (j := 4) (by kernel_rfl) rfl rfl) (fun w2 hb => run_load1 Tryz.underlying51 rfl ((B0.drew.below hb).cell 1)) (fun _ _ => rfl)) ?_
            refine And.intro (ob_call2 rfl Tryz.func145 (by kernel_rfl) (wt_none rfl) (ev_dep (j := 3) (by kernel_rfl) rfl rfl) (ev_dep (j := 5) (by kernel_rfl) rfl rfl) (fun w2 u0 u1 hb h0 h1 => by obtain rfl := h0; obtain rfl := h1; exact (refSub_any _ _ _ _ _ (k1s.drew.below hb) (k0s.drew.below hb) HL2.out HLE.out _ rfl).mono fun e w3 h => RetS.pd h hb.size)) ?_
            refine And.intro (ob_call2 rfl Tryz.func134 (by kernel_rfl) (wt_none rfl) (ev_dep (j := 1) (by kernel_rfl) rfl rfl) (ev_dep (j := 6) (by kernel_rfl) rfl rfl) (fun w2 u0 u1 hb h0 h1 => by obtain rfl := h0; exact made_pd _ _ _ (x + y) _ h1.1 HZ.out)) ?_
            trivial
          case done27 =>
            refine fun w3 hb3 v0 h0 v1 h1 v2 h2 v3 h3 v4 h4 v5 h5 v6 h6 v7 h7 b hbf => ?_
            obtain rfl := h0; obtain rfl := h1; obtain rfl := h2; obtain rfl := h3; obtain rfl := h4; obtain rfl := h5
            obtain ⟨q6, f6⟩ := h6
            have q7 := h7
            simp only [Act.put, List.setIfInBounds_toArray, List.set_cons_zero, List.set_cons_succ] at hbf
            subst hbf
            obtain ⟨u7, rfl, q7⟩ := q7
            obtain ⟨A9, c9, rfl, _⟩ := id q7
            have B9 := B2.below hb3
            refine any_store (i := 8) (by kernel_rfl) rfl rfl rfl rfl rfl rfl (cells := [.bool (ngB (x + y)), .slice A9 (digs 10000 (x + y).natAbs).length c9]) rfl B9 rfl (by kernel_rfl) (one2 rfl rfl) fun w9 hg9 BB9 => ?_
            have k9 := off q7 B9 no_ints2 hg9
            have bb9 := ((bb.trans (hb3.mono bb.size)).trans ((Below.refl _ _).grown hg9 (Nat.le_trans bb.size hb3.size) (fun g hg => by injection hg with hg; omega)))
            obtain ⟨c0, c1, _, _⟩ := Blk.two BB9
            refine any_done (by kernel_rfl) ?_
            go_wp2
            exact bodyPost_ret (v := .agg #[.bool (ngB (x + y)), .slice A9 (digs 10000 (x + y).natAbs).length c9]) (by simp [results, Tryz.results114, go_sem, c0, c1]) rfl ⟨_, rfl, isR_mk k9 rfl rfl, bb9⟩
  · have HZ : Hid (sg true (x.natAbs + y.natAbs) = x + y) := by show _ = _; have := ngB_true hs0; have := ngB_true hs1; rw [sg_true]; omega
    go_enter Tryz.func114, Tryz.ntmps114
    go_upto_region 1 with (fail)
    obtain ⟨wx, hwx, bb, B0, B1, B2, hsz⟩ := vars3 w 53 53 53 #[.bool true, .slice A0 (digs 10000 (x).natAbs).length c0] #[.bool true, .slice A1 (digs 10000 (y).natAbs).length c1] #[.bool false, .slice none 0 0]
    rw [hwx]
    clear hwx
    have k0s := s0.below bb
    have k0 : IsR wx (.agg #[.bool true, .slice A0 (digs 10000 (x).natAbs).length c0]) (x) := isR_mk k0s rfl hs0.symm
    have k1s := s1.below bb
    have k1 : IsR wx (.agg #[.bool true, .slice A1 (digs 10000 (y).natAbs).length c1]) (y) := isR_mk k1s rfl hs1.symm
    have hszb := bb.size
    refine flowp 5 [Pd.eq (.pointer (some ⟨w.heap.size, 0, none⟩)), Pd.eq (.bool true), Pd.eq (.pointer (some ⟨w.heap.size + 1, 0, none⟩)), Pd.eq (.bool true), Pd.eq (.bool true)] (by kernel_rfl) ?ob28 ?done28
    case ob28 =>
      refine And.intro (ob_fieldAddr rfl (wt_none rfl) (ev_far rfl rfl) (fun _ => by kernel_rfl) (fun _ => rfl)) ?_
      refine And.intro (ob_load rfl (wt_none rfl) (ev_dep (j := 0) (by kernel_rfl) rfl rfl) (fun w2 hb => run_load1 Tryz.underlying4 rfl ((B0.below hb).cell 0)) (fun _ _ => rfl)) ?_
      refine And.intro (ob_fieldAddr rfl (wt_none rfl) (ev_far rfl rfl) (fun _ => by kernel_rfl) (fun _ => rfl)) ?_
      refine And.intro (ob_load rfl (wt_none rfl) (ev_dep (j := 2) (by kernel_rfl) rfl rfl) (fun w2 hb => run_load1 Tryz.underlying4 rfl ((B1.below hb).cell 0)) (fun _ _ => rfl)) ?_
      refine And.intro (ob_bin rfl (wt_none rfl) (ev_dep (j := 1) (by kernel_rfl) rfl rfl) (ev_dep (j := 3) (by kernel_rfl) rfl rfl) (fun _ _ _ hx hy => ⟨.bool (true == true), by rw [hx, hy]; exact bin_eql_bool _ _ _ _ Tryz.underlying4 _, rfl⟩)) ?_
      trivial
    case done28 =>
      refine fun w1 hb1 v0 h0 v1 h1 v2 h2 v3 h3 v4 h4 b hbf => ?_
      obtain rfl := h0; obtain rfl := h1; obtain rfl := h2; obtain rfl := h3; obtain rfl := h4
      simp only [Act.put, List.setIfInBounds_toArray, List.set_cons_zero, List.set_cons_succ] at hbf
      subst hbf
      replace B0 := B0.below hb1
      replace B1 := B1.below hb1
      replace B2 := B2.below hb1
      replace k0s := k0s.below hb1
      replace k1s := k1s.below hb1
      replace k0 := k0.below hb1
      replace k1 := k1.below hb1
      replace bb := bb.trans (hb1.mono bb.size)
      have hszb := bb.size
      obtain ⟨x00, x01, y00, y01⟩ := Blk.two B0
      obtain ⟨x10, x11, y10, y11⟩ := Blk.two B1
      obtain ⟨x20, x21, y20, y21⟩ := Blk.two B2
      refine ops_done ?_
      go_upto_region 2 with (fail)
      refine flow 8 [Pd.eq (.pointer (some ⟨w.heap.size, 0, none⟩)), Pd.eq (.bool true), Pd.eq (.pointer (some ⟨w.heap.size, 1, none⟩)), Pd.eq (.slice A0 (digs 10000 (x).natAbs).length c0), Pd.eq (.pointer (some ⟨w.heap.size + 1, 1, none⟩)), Pd.eq (.slice A1 (digs 10000 (y).natAbs).length c1), ps .i64 (digs 10000 (x.natAbs + y.natAbs)) w1.heap.size, pr (x + y)] (by kernel_rfl) (by kernel_rfl) ?ob29 ?done29
      case ob29 =>
        refine And.intro (ob_fieldAddr rfl (wt_none rfl) (ev_far rfl rfl) (fun _ => by kernel_rfl) (fun _ => rfl)) ?_
        refine And.intro (ob_load rfl (wt_none rfl) (ev_dep (j := 0) (by kernel_rfl) rfl rfl) (fun w2 hb => run_load1 Tryz.underlying4 rfl ((B0.drew.below hb).cell 0)) (fun _ _ => rfl)) ?_
        refine And.intro (ob_fieldAddr rfl (wt_none rfl) (ev_far rfl rfl) (fun _ => by kernel_rfl) (fun _ => rfl)) ?_
        refine And.intro (ob_load rfl (wt_none rfl) (ev_dep (j := 2) (by kernel_rfl) rfl rfl) (fun w2 hb => run_load1 Tryz.underlying51 rfl ((B0.drew.below hb).cell 1)) (fun _ _ => rfl)) ?_
        refine And.intro (ob_fieldAddr rfl (wt_none rfl) (ev_far rfl rfl) (fun _ => by kernel_rfl) (fun _ => rfl)) ?_
        refine And.intro (ob_load rfl (wt_none rfl) (ev_dep (j := 4) (by kernel_rfl) rfl rfl) (fun w2 hb => run_load1 Tryz.underlying51 rfl ((B1.drew.below hb).cell 1)) (fun _ _ => rfl)) ?_
        refine And.intro (ob_call2 rfl Tryz.func143 (by kernel_rfl) (wt_none rfl) (ev_dep (j := 3) (by kernel_rfl) rfl rfl) (ev_dep (j := 5) (by kernel_rfl) rfl rfl) (fun w2 u0 u1 hb h0 h1 => by obtain rfl := h0; obtain rfl := h1; exact (refAdd_any _ _ _ _ _ (k0s.drew.below hb) (k1s.drew.below hb) HL.out HL2.out).mono fun e w3 h => RetS.pd h hb.size)) ?_
        refine And.intro (ob_call2 rfl Tryz.func134 (by kernel_rfl) (wt_none rfl) (ev_dep (j := 1) (by kernel_rfl) rfl rfl) (ev_dep (j := 6) (by kernel_rfl) rfl rfl) (fun w2 u0 u1 hb h0 h1 => by obtain rfl := h0; exact made_pd _ _ _ (x + y) _ h1.1 HZ.out)) ?_
        trivial
      case done29 =>
        refine fun w2 hb2 v0 h0 v1 h1 v2 h2 v3 h3 v4 h4 v5 h5 v6 h6 v7 h7 b hbf => ?_
        obtain rfl := h0; obtain rfl := h1; obtain rfl := h2; obtain rfl := h3; obtain rfl := h4; obtain rfl := h5
        obtain ⟨q6, f6⟩ := h6
        have q7 := h7
        simp only [Act.put, List.setIfInBounds_toArray, List.set_cons_zero, List.set_cons_succ] at hbf
        subst hbf
        obtain ⟨u7, rfl, q7⟩ := q7
        obtain ⟨A9, c9, rfl, _⟩ := id q7
        have B9 := B2.below hb2
        refine any_store (i := 8) (by kernel_rfl) rfl rfl rfl rfl rfl rfl (cells := [.bool (ngB (x + y)), .slice A9 (digs 10000 (x + y).natAbs).length c9]) rfl B9 rfl (by kernel_rfl) (one2 rfl rfl) fun w9 hg9 BB9 => ?_
        have k9 := off q7 B9 no_ints2 hg9
        have bb9 := ((bb.trans (hb2.mono bb.size)).trans ((Below.refl _ _).grown hg9 (Nat.le_trans bb.size hb2.size) (fun g hg => by injection hg with hg; omega)))
        obtain ⟨c0, c1, _, _⟩ := Blk.two BB9
        refine any_done (by kernel_rfl) ?_
        go_wp2
        exact bodyPost_ret (v := .agg #[.bool (ngB (x + y)), .slice A9 (digs 10000 (x + y).natAbs).length c9]) (by simp [results, Tryz.results114, go_sem, c0, c1]) rfl ⟨_, rfl, isR_mk k9 rfl rfl, bb9⟩
end Go.Proofs.YtfnohdgnhdfpaaaGreat.whl
namespace Go.Proofs.YtfnohdgnhdfpaaaGreat.flow
open Go.RowKit Go.Proofs.YtfnohdgnhdfpaaaGreat.num Go.Proofs.YtfnohdgnhdfpaaaGreat.mem
set_option linter.unusedVariables false
section
variable {P : Program}
theorem run_loadPart {t : TypeId} {g off : Nat} {cs es : List Value} {e : TypeId} {d : TypeDesc} {w : World} (hu : P.underlying t = some d) (hd : d.isRow = true) (hi : (P.info? t).map (·.size) = some cs.length) (hB : w.heap[g]? = some (.cells es.toArray e (0, 0))) (hsub : (es.drop off).take cs.length = cs) : (Instr.loadAt t (.pointer (some ⟨g, off, none⟩))).run P w = .ok (.agg cs.toArray) w :=
  run_loadAt_mid w g off t cs d (fun j v hj => by
    rw [cell_of_row w g (off + j) es.toArray e (0, 0) hB]
    have hj2 : j < cs.length := (List.getElem?_eq_some_iff.1 hj).1
    have h := congrArg (·[j]?) hsub
    simp only [List.getElem?_take_of_lt hj2, List.getElem?_drop] at h
    rw [hj] at h
    simpa using h) hu hd hi
end
section
variable {P : Program} {Q : Exit → Act → World → Prop} {ops : Array Oper} {L : List Oper} {Φ : List Pd} {w0 : World} {a0 : Act} {i : Nat} {o : Oper}
theorem ob_build1b {t : TypeId} {k : Nat} {x : Operand} {F : World → Value → Prop} (hop : o.op = .build t #[(k, x)]) (hw : Wt ops L Φ w0 a0 o true) (hx : Ev L Φ w0 a0 o x F)
    (hr : ∀ w u, Below w0.heap.size w0 w → F w u → ∃ v, (Instr.build t #[(k, u)]).run P w = .ok v w ∧ (ph Φ i).p w v) : Ob P Q ops L Φ w0 a0 i o :=
  ob_val hw (by unfold isA; rw [hop]) fun ms w hS => by
    obtain ⟨v, h1, h2⟩ := hr w _ hS.below (hx ms w hS)
    exact ⟨v, by unfold execOp; simp only [hop, Sem.run_bind, List.map_toArray, List.map_cons, List.map_nil, h1]; rfl, h2⟩
end
theorem one3 {x y z : Value} (hx : x.oneCell' = true) (hy : y.oneCell' = true) (hz : z.oneCell' = true) : ∀ c ∈ [x, y, z], c.oneCell' = true := by
  intro c hc
  rcases List.mem_cons.1 hc with rfl | hc
  · exact hx
  · exact one2 hy hz c hc
theorem no_ints3 {k : IntKind} {b : Bool} {A D : Option Addr} {n m i j : Nat} : ∀ c ∈ (#[.bool b, .slice A n m, .slice D i j] : Array Value), ∀ i, c ≠ .int k i := by
  intro c hc i
  simp at hc
  rcases hc with rfl | rfl | rfl <;> simp
end Go.Proofs.YtfnohdgnhdfpaaaGreat.flow
namespace Go.Proofs.YtfnohdgnhdfpaaaGreat.rat
open Go.RowKit Go.Proofs.YtfnohdgnhdfpaaaGreat.num Go.Proofs.YtfnohdgnhdfpaaaGreat.mem Go.Proofs.YtfnohdgnhdfpaaaGreat.nat Go.Proofs.YtfnohdgnhdfpaaaGreat.txt Go.Proofs.YtfnohdgnhdfpaaaGreat.str Go.Proofs.YtfnohdgnhdfpaaaGreat.flow Go.Proofs.YtfnohdgnhdfpaaaGreat.whl
set_option linter.unusedVariables false
theorem three {w : World} {g : Nat} {t : TypeId} {x y z : Value} (h : Blk w g t #[x, y, z]) : w.cell? ⟨g, 0, none⟩ = some x ∧ w.cell? ⟨g, 1, none⟩ = some y ∧ w.cell? ⟨g, 2, none⟩ = some z ∧ w.frozen? ⟨g, 0, none⟩ = false ∧ w.frozen? ⟨g, 1, none⟩ = false ∧ w.frozen? ⟨g, 2, none⟩ = false :=
  ⟨h.cell 0, h.cell 1, h.cell 2, h.frozen 0, h.frozen 1, h.frozen 2⟩
theorem FreshQ.mono {B B' : Nat} {v : Value} (h : FreshQ B v) (hb : B' ≤ B) : FreshQ B' v := fun n u t e => ⟨(h n u t e).1.mono hb, (h n u t e).2.mono hb⟩
theorem freshQ_mk {B : Nat} {b : Bool} {u t : Value} (h : Fresh B u) (k : Fresh B t) : FreshQ B (.agg #[.bool b, u, t]) := by
  intro n u' t' e
  injection e with e
  have e := congrArg Array.toList e
  simp at e
  obtain ⟨_, rfl, rfl⟩ := e
  exact ⟨h, k⟩
/-- The call's answer is this fraction, in new memory. -/
def RetQ (q : Rat) (w : World) (e : Ending) (w' : World) : Prop := ∃ v, e = .returned v ∧ IsQ w' v q ∧ FreshQ w.heap.size v ∧ Below w.heap.size w w'
/-- The document's own fraction. -/
def RetP (q : Rat) (w : World) (e : Ending) (w' : World) : Prop := ∃ v, e = .returned v ∧ IsP w' v q ∧ Below w.heap.size w w'
/-- In new memory. -/
def RetPF (q : Rat) (w : World) (e : Ending) (w' : World) : Prop := ∃ v, e = .returned v ∧ IsP w' v q ∧ FreshQ w.heap.size v ∧ Below w.heap.size w w'
/-- The call's answer is this fraction. -/
def RetQn (q : Rat) (w : World) (e : Ending) (w' : World) : Prop := ∃ v, e = .returned v ∧ IsQ w' v q ∧ Below w.heap.size w w'
/-- This fraction, and an error's number. -/
def RetQE (q : Rat) (n : Int) (w : World) (e : Ending) (w' : World) : Prop := ∃ v, e = .returned (.tuple #[v, .int .i64 n]) ∧ IsQ w' v q ∧ Below w.heap.size w w'
/-- Nothing, and an error's number. -/
def RetQN (n : Int) (w : World) (e : Ending) (w' : World) : Prop := e = .returned (.tuple #[.agg #[.bool false, .slice none 0 0, .slice none 0 0], .int .i64 n]) ∧ Below w.heap.size w w'
def pqe (q : Rat) (n : Int) : Pd := ⟨fun w t => ∃ v, t = .tuple #[v, .int .i64 n] ∧ IsQ w v q, fun h hb => by obtain ⟨v, e, h1⟩ := h; exact ⟨v, e, h1.below hb⟩⟩
def pq (q : Rat) (B : Nat) : Pd := ⟨fun w v => IsQ w v q ∧ FreshQ B v, fun h hb => ⟨h.1.below hb, h.2⟩⟩
def pqn (q : Rat) : Pd := ⟨fun w v => IsQ w v q, fun h hb => h.below hb⟩
def pp (q : Rat) : Pd := ⟨fun w v => IsP w v q, fun h hb => h.below hb⟩
def ppf (q : Rat) (B : Nat) : Pd := ⟨fun w v => IsP w v q ∧ FreshQ B v, fun h hb => ⟨h.1.below hb, h.2⟩⟩
theorem RetQ.pd {q : Rat} {w : World} {e : Ending} {w' : World} {B : Nat} (h : RetQ q w e w') (hB : B ≤ w.heap.size) : RetPd (pq q B) w e w' := by
  obtain ⟨v, h1, h2, h3, h4⟩ := h
  exact ⟨v, h1, ⟨h2, h3.mono hB⟩, h4⟩
theorem RetQn.pd {q : Rat} {w : World} {e : Ending} {w' : World} (h : RetQn q w e w') : RetPd (pqn q) w e w' := h
theorem RetQ.n {q : Rat} {w : World} {e : Ending} {w' : World} (h : RetQ q w e w') : RetQn q w e w' := by
  obtain ⟨v, h1, h2, _, h4⟩ := h
  exact ⟨v, h1, h2, h4⟩
theorem RetQE.pd {q : Rat} {n : Int} {w : World} {e : Ending} {w' : World} (h : RetQE q n w e w') : RetPd (pqe q n) w e w' := by
  obtain ⟨v, h1, h2, h3⟩ := h
  exact ⟨_, h1, ⟨v, rfl, h2⟩, h3⟩
theorem RetQN.pd {n : Int} {w : World} {e : Ending} {w' : World} (h : RetQN n w e w') : RetPd (Pd.eq (.tuple #[.agg #[.bool false, .slice none 0 0, .slice none 0 0], .int .i64 n])) w e w' := ⟨_, h.1, rfl, h.2⟩
theorem RetP.pd {q : Rat} {w : World} {e : Ending} {w' : World} (h : RetP q w e w') : RetPd (pp q) w e w' := h
theorem RetPF.pd {q : Rat} {w : World} {e : Ending} {w' : World} (h : RetPF q w e w') : RetPd (pp q) w e w' := by
  obtain ⟨v, h1, h2, h3, h4⟩ := h
  exact ⟨v, h1, h2, h4⟩
theorem RetPF.pdf {q : Rat} {w : World} {e : Ending} {w' : World} {B : Nat} (h : RetPF q w e w') (hB : B ≤ w.heap.size) : RetPd (ppf q B) w e w' := by
  obtain ⟨v, h1, h2, h3, h4⟩ := h
  exact ⟨v, h1, ⟨h2, h3.mono hB⟩, h4⟩
theorem endQ {w w2 : World} {u t x y z : Value} {q : Rat} {g B : Nat} (hb : Below w.heap.size w w2) (hg : w.heap.size ≤ g) (hgB : g < B) (hu : IsS w2 .u64 u (digs 4294967296 q.num.natAbs)) (ht : IsS w2 .u64 t (digs 4294967296 q.den)) (hf : FreshQ B (.agg #[.bool (ngB q.num), u, t])) :
    RetQ q w (.returned (.agg #[.bool (ngB q.num), u, t])) (((w2.setCell ⟨g, 0, none⟩ x).setCell ⟨g, 1, none⟩ y).setCell ⟨g, 2, none⟩ z) := by
  obtain ⟨f1, f2⟩ := hf _ _ _ rfl
  exact ⟨_, rfl, ⟨u, t, rfl, ((hu.setCell f1 hgB _).setCell f1 hgB _).setCell f1 hgB _, ((ht.setCell f2 hgB _).setCell f2 hgB _).setCell f2 hgB _⟩, hf.mono (by omega), ((hb.setCell hg _).setCell hg _).setCell hg _⟩
theorem RetZ.pi {z : Int} {w : World} {e : Ending} {w' : World} (h : RetZ z w e w') : RetPd (pi z) w e w' := by
  obtain ⟨v, h1, h2, _, h4⟩ := h
  exact ⟨v, h1, h2, h4⟩
end Go.Proofs.YtfnohdgnhdfpaaaGreat.rat
namespace Go.Proofs.YtfnohdgnhdfpaaaGreat.whl
open Go.RowKit Go.Proofs.YtfnohdgnhdfpaaaGreat.num Go.Proofs.YtfnohdgnhdfpaaaGreat.mem Go.Proofs.YtfnohdgnhdfpaaaGreat.nat Go.Proofs.YtfnohdgnhdfpaaaGreat.txt Go.Proofs.YtfnohdgnhdfpaaaGreat.str Go.Proofs.YtfnohdgnhdfpaaaGreat.flow
set_option linter.unusedVariables false
/-- The whole number that Clean makes of any. -/
def cleanZ (b : Bool) (l : List Nat) (most : Nat) : Int := sg b (cleaned l most)
theorem cleanZ_len (b : Bool) (l : List Nat) (most : Nat) : lenZ (cleanZ b l most) ≤ most := by unfold lenZ cleanZ; rw [sg_abs]; exact cleaned_len l most
set_option maxHeartbeats 800000 in
theorem zclean_any (b : Bool) (v : Value) (l : List Nat) (mI : Int) (most : Nat) (w : World) (hmI : mI = (most : Int)) (h : IsS w .u64 v l) (hu : Lt 18446744073709551616 l) (hmost : most ≤ 1000000) :
    Calls Tryz.prog 88 #[.agg #[.bool b, v], .int .i64 mI] w (RetZ (cleanZ b l most) w) := by
  obtain ⟨A, c, rfl, _⟩ := id h
  have HM := Lib.hid hmI
  clear hmI
  have hsh : Hid (IsS w .u64 (.slice A l.length c) l) := h
  go_enter Tryz.func88, Tryz.ntmps88
  go_upto_region 1 with (fail)
  obtain ⟨wx, hwx, bb, B0, B1, hsz⟩ := vars2 w 42 42 #[.bool b, .slice A l.length c] #[.bool false, .slice none 0 0]
  rw [hwx]
  clear hwx
  have k0s := h.below bb
  obtain ⟨x00, x01, _, _⟩ := Blk.two B0
  go_wp2_with fail
  refine (clean_any _ l _ most _ HM.out k0s hu hmost).mono ?_
  rintro e w1 ⟨v1, rfl, k1, f1, b1⟩
  obtain ⟨A1, c1, rfl, _⟩ := id k1
  have B0' := B0.below b1
  have B1' := B1.below b1
  have bb1 := bb.trans (b1.mono bb.size)
  have hs := b1.size
  obtain ⟨x10, x11, z10, z11⟩ := Blk.two B0'
  obtain ⟨y10, y11, q10, q11⟩ := Blk.two B1'
  clear x00 x01 B0 B1
  obtain ⟨y, hy⟩ : ∃ y, y = cleaned l most := ⟨_, rfl⟩
  have HY := Lib.hid hy.symm
  rw [← hy] at k1 f1 ⊢
  clear hy
  by_cases hy0 : 0 < y
  · have hn : 0 < (digs 4294967296 y).length := len_pos hy0
    have HE : Hid (ngB (sg b y) = b) := ngB_sg_pos hy0
    have HAb : Hid ((sg b y).natAbs = y) := sg_abs b y
    have HC : Hid (cleanZ b l most = sg b y) := by show _ = _; unfold cleanZ; rw [HY.out]
    cases b
    all_goals
      go_wp2
      refine bodyPost_ret (by simp [results, Tryz.results88, go_sem, y10, y11]; rfl) rfl ?_
      rw [HC.out]
      exact endZ bb1 (by omega) (show w.heap.size + 1 < wx.heap.size from hsz) (by rw [HAb.out]; exact k1) f1 HE.out.symm
  · obtain rfl : y = 0 := by omega
    have HC : Hid (cleanZ b l most = sg b 0) := by show _ = _; unfold cleanZ; rw [HY.out]
    have HE : Hid (ngB (sg b 0) = false) := ngB_sg_zero b
    have HAb : Hid ((sg b 0).natAbs = 0) := sg_abs b 0
    have HD : Hid (digs 4294967296 0 = []) := digs_zero _
    rw [HD.out] at k1 f1 ⊢
    cases b
    all_goals
      go_wp2
      refine bodyPost_ret (by simp [results, Tryz.results88, go_sem, y10, y11]; rfl) rfl ?_
      rw [HC.out]
      exact endZ bb1 (by omega) (show w.heap.size + 1 < wx.heap.size from hsz) (by rw [HAb.out, HD.out]; exact k1) f1 HE.out.symm
theorem exact_q {x y q : Int} (hy : y ≠ 0) (h : x = q * y) : x.natAbs % y.natAbs = 0 ∧ x.natAbs / y.natAbs = q.natAbs ∧ sg (!(ngB x == ngB y)) q.natAbs = q := by
  have e : x.natAbs = q.natAbs * y.natAbs := by rw [h, Int.natAbs_mul]
  have hp : 0 < y.natAbs := by omega
  refine ⟨by rw [e]; exact Nat.mul_mod_left _ _, by rw [e]; exact Nat.mul_div_cancel _ hp, ?_⟩
  by_cases hq : q = 0
  · subst hq
    cases (!(ngB x == ngB y)) <;> rfl
  · have hx : sg (!(ngB q == ngB y)) (q.natAbs * y.natAbs) = x := by rw [h]; exact sg_mul q y
    have hs : ngB x = (!(ngB q == ngB y)) := by rw [← hx]; exact ngB_sg_pos (Nat.mul_pos (by omega) hp)
    rw [hs]
    have h1 := sg_self q
    revert h1
    cases ngB q <;> cases ngB y <;> exact id
set_option maxHeartbeats 1600000 in
set_option maxRecDepth 100000 in
theorem zexact_ok (a0 : Value) (x : Int) (a1 : Value) (y : Int) (q : Int) (w : World) (h0 : IsZ w a0 x) (h1 : IsZ w a1 y) (hl : lenZ x ≤ 20000) (hl2 : lenZ y ≤ 20000) (hy : y ≠ 0) (hq : x = q * y) :
    Calls Tryz.prog 128 #[a0, a1] w (RetZE q 0 w) := by
  obtain ⟨u0, rfl, s0⟩ := h0
  obtain ⟨A0, c0, rfl, _⟩ := id s0
  obtain ⟨u1, rfl, s1⟩ := h1
  obtain ⟨A1, c1, rfl, _⟩ := id s1
  have HL : Hid ((digs 4294967296 x.natAbs).length ≤ 90000) := Nat.le_trans hl (by omega)
  have HL2 : Hid ((digs 4294967296 y.natAbs).length ≤ 90000) := Nat.le_trans hl2 (by omega)
  obtain ⟨hm1, hm2, hm3⟩ := exact_q hy hq
  have HY : Hid (0 < y.natAbs) := by show 0 < _; omega
  have HM1 := Lib.hid hm1
  have HM2 := Lib.hid hm2
  have HZ := Lib.hid hm3
  clear hm1 hm2 hm3 hy hq
  go_enter Tryz.func128, Tryz.ntmps128
  go_upto_region 1 with (fail)
  obtain ⟨wx, hwx, bb, B0, B1, B2, hsz⟩ := vars3 w 42 42 42 #[.bool (ngB x), .slice A0 (digs 4294967296 (x).natAbs).length c0] #[.bool (ngB y), .slice A1 (digs 4294967296 (y).natAbs).length c1] #[.bool false, .slice none 0 0]
  rw [hwx]
  clear hwx
  have k0s := s0.below bb
  have k0 : IsZ wx (.agg #[.bool (ngB x), .slice A0 (digs 4294967296 (x).natAbs).length c0]) (x) := isZ_mk k0s rfl rfl
  have k1s := s1.below bb
  have k1 : IsZ wx (.agg #[.bool (ngB y), .slice A1 (digs 4294967296 (y).natAbs).length c1]) (y) := isZ_mk k1s rfl rfl
  have hszb := bb.size
  have bb0 := bb.size
  refine flowp 10 [Pd.eq (.pointer (some ⟨w.heap.size, 1, none⟩)), Pd.eq (.slice A0 (digs 4294967296 (x).natAbs).length c0), Pd.eq (.pointer (some ⟨w.heap.size + 1, 1, none⟩)), Pd.eq (.slice A1 (digs 4294967296 (y).natAbs).length c1), pt .u64 (digs 4294967296 q.natAbs) 0 wx.heap.size, pt .u64 (digs 4294967296 q.natAbs) 0 wx.heap.size, ps .u64 (digs 4294967296 q.natAbs) wx.heap.size, Pd.eq (.int .i64 0), ps .u64 (digs 4294967296 q.natAbs) wx.heap.size, Pd.eq (.int .i64 0)] (by kernel_rfl) ?ob3 ?done3
  case ob3 =>
    refine And.intro (ob_fieldAddr rfl (wt_none rfl) (ev_far rfl rfl) (fun _ => by kernel_rfl) (fun _ => rfl)) ?_
    refine And.intro (ob_load rfl (wt_none rfl) (ev_dep (j := 0) (by kernel_rfl) rfl rfl) (fun w2 hb => run_load1 Tryz.underlying40 rfl ((B0.below hb).cell 1)) (fun _ _ => rfl)) ?_
    refine And.intro (ob_fieldAddr rfl (wt_none rfl) (ev_far rfl rfl) (fun _ => by kernel_rfl) (fun _ => rfl)) ?_
    refine And.intro (ob_load rfl (wt_none rfl) (ev_dep (j := 2) (by kernel_rfl) rfl rfl) (fun w2 hb => run_load1 Tryz.underlying40 rfl ((B1.below hb).cell 1)) (fun _ _ => rfl)) ?_
    refine And.intro (ob_call2 rfl Tryz.func130 (by kernel_rfl) (wt_none rfl) (ev_dep (j := 1) (by kernel_rfl) rfl rfl) (ev_dep (j := 3) (by kernel_rfl) rfl rfl) (fun w2 u0 u1 hb h0 h1 => by obtain rfl := h0; obtain rfl := h1; exact (dexact_ok _ _ _ _ _ (k0s.below hb) (k1s.below hb) HL.out HL2.out HY.out _ HM1.out HM2.out.symm).mono fun e w3 h => RetSI.pd h hb.size)) ?_
    refine And.intro (ob_move rfl (wt_none rfl) (ev_dep (j := 4) (by kernel_rfl) rfl rfl) (fun _ _ h => h)) ?_
    refine And.intro (ob_extract rfl (wt_none rfl) (ev_dep (j := 5) (by kernel_rfl) rfl rfl) (fun w2 u hu => by obtain ⟨v, rfl, q1, q2⟩ := hu; exact ⟨v, rfl, q1, q2⟩)) ?_
    refine And.intro (ob_extract rfl (wt_none rfl) (ev_dep (j := 5) (by kernel_rfl) rfl rfl) (fun w2 u hu => by obtain ⟨v, rfl, q1, q2⟩ := hu; exact ⟨_, rfl, rfl⟩)) ?_
    refine And.intro (ob_assign rfl (wt_none rfl) (ev_dep (j := 6) (by kernel_rfl) rfl rfl) (fun _ _ h => h)) ?_
    refine And.intro (ob_assign rfl (wt_none rfl) (ev_dep (j := 7) (by kernel_rfl) rfl rfl) (fun _ _ h => h)) ?_
    trivial
  case done3 =>
    refine fun w1 hb1 v0 h0 v1 h1 v2 h2 v3 h3 v4 h4 v5 h5 v6 h6 v7 h7 v8 h8 v9 h9 b hbf => ?_
    obtain rfl := h0; obtain rfl := h1; obtain rfl := h2; obtain rfl := h3; obtain rfl := h7; obtain rfl := h9
    clear h4
    clear h5
    obtain ⟨q6, f6⟩ := h6
    obtain ⟨q8, f8⟩ := h8
    simp only [Act.put, List.setIfInBounds_toArray, List.set_cons_zero, List.set_cons_succ] at hbf
    subst hbf
    obtain ⟨A6, c6, rfl, _⟩ := id q8
    have kq := q8
    have kqf := f8
    replace B0 := B0.below hb1
    replace B1 := B1.below hb1
    replace B2 := B2.below hb1
    replace k0s := k0s.below hb1
    replace k1s := k1s.below hb1
    replace k0 := k0.below hb1
    replace k1 := k1.below hb1
    replace bb := bb.trans (hb1.mono bb.size)
    have hszb := bb.size
    obtain ⟨x00, x01, y00, y01⟩ := Blk.two B0
    obtain ⟨x10, x11, y10, y11⟩ := Blk.two B1
    obtain ⟨x20, x21, y20, y21⟩ := Blk.two B2
    refine ops_done ?_
    go_upto_region 4 with (fail)
    refine flowp 7 [Pd.eq (.pointer (some ⟨w.heap.size, 0, none⟩)), Pd.eq (.bool (ngB x)), Pd.eq (.pointer (some ⟨w.heap.size + 1, 0, none⟩)), Pd.eq (.bool (ngB y)), Pd.eq (.bool (!((ngB x) == (ngB y)))), Pd.eq (.slice A6 (digs 4294967296 q.natAbs).length c6), pz (q) wx.heap.size] (by kernel_rfl) ?ob4 ?done4
    case ob4 =>
      refine And.intro (ob_fieldAddr rfl (wt_none rfl) (ev_far rfl rfl) (fun _ => by kernel_rfl) (fun _ => rfl)) ?_
      refine And.intro (ob_load rfl (wt_none rfl) (ev_dep (j := 0) (by kernel_rfl) rfl rfl) (fun w2 hb => run_load1 Tryz.underlying4 rfl ((B0.below hb).cell 0)) (fun _ _ => rfl)) ?_
      refine And.intro (ob_fieldAddr rfl (wt_none rfl) (ev_far rfl rfl) (fun _ => by kernel_rfl) (fun _ => rfl)) ?_
      refine And.intro (ob_load rfl (wt_none rfl) (ev_dep (j := 2) (by kernel_rfl) rfl rfl) (fun w2 hb => run_load1 Tryz.underlying4 rfl ((B1.below hb).cell 0)) (fun _ _ => rfl)) ?_
      refine And.intro (ob_bin rfl (wt_none rfl) (ev_dep (j := 1) (by kernel_rfl) rfl rfl) (ev_dep (j := 3) (by kernel_rfl) rfl rfl) (fun _ _ _ hx hy => ⟨.bool (!((ngB x) == (ngB y))), by rw [hx, hy]; exact bin_neq_bool _ _ _ _ Tryz.underlying4 _, rfl⟩)) ?_
      refine And.intro (ob_move rfl (wt_none rfl) (ev_far rfl rfl) (fun _ _ h => h)) ?_
      refine And.intro (ob_call2 rfl Tryz.func125 (by kernel_rfl) (wt_none rfl) (ev_dep (j := 4) (by kernel_rfl) rfl rfl) (ev_dep (j := 5) (by kernel_rfl) rfl rfl) (fun w2 u0 u1 hb h0 h1 => by obtain rfl := h0; obtain rfl := h1; exact signed_pd _ _ _ (q) _ (kq.below hb) kqf HZ.out)) ?_
      trivial
    case done4 =>
      refine fun w2 hb2 v0 h0 v1 h1 v2 h2 v3 h3 v4 h4 v5 h5 v6 h6 b hbf => ?_
      obtain rfl := h0; obtain rfl := h1; obtain rfl := h2; obtain rfl := h3; obtain rfl := h4; obtain rfl := h5
      obtain ⟨q6, f6⟩ := h6
      simp only [Act.put, List.setIfInBounds_toArray, List.set_cons_zero, List.set_cons_succ] at hbf
      subst hbf
      obtain ⟨u6, rfl, q6⟩ := q6
      obtain ⟨A9, c9, rfl, _⟩ := id q6
      have B9 := B2.below hb2
      refine ops_store (i := 7) rfl rfl rfl rfl rfl rfl (cells := [.bool (ngB (q)), .slice A9 (digs 4294967296 (q).natAbs).length c9]) rfl B9 rfl (by kernel_rfl) (one2 rfl rfl) fun w9 hg9 BB9 => ?_
      have k9 := off q6 B9 no_ints2 hg9
      have f9 := (f6 _ _ rfl).mono bb0
      have bb9 := ((bb.trans (hb2.mono bb.size)).trans ((Below.refl _ _).grown hg9 (Nat.le_trans bb.size hb2.size) (fun g hg => by injection hg with hg; omega)))
      obtain ⟨c0, c1, _, _⟩ := Blk.two BB9
      refine ops_assign (i := 8) (.int .i64 0) rfl rfl rfl rfl rfl fun b hbf => ?_
      simp only [Act.put, List.setIfInBounds_toArray, List.set_cons_zero, List.set_cons_succ] at hbf
      subst hbf
      refine ops_done ?_
      go_wp2
      exact bodyPost_ret (v := .tuple #[.agg #[.bool (ngB (q)), .slice A9 (digs 4294967296 (q).natAbs).length c9], .int .i64 0]) (by simp [results, Tryz.results128, go_sem, c0, c1]) rfl ⟨_, rfl, isZ_mk k9 rfl rfl, freshZ_mk f9, bb9⟩
set_option maxHeartbeats 800000 in
theorem zof_any (n : Int) (w : World) (h1 : -9223372036854775808 ≤ n) (h2 : n ≤ 9223372036854775807) :
    Calls Tryz.prog 79 #[.int .i64 n] w (RetZ n w) := by
  by_cases hn : n < 0
  · have HW : Hid (IntKind.u64.wrap (-IntKind.u64.wrap n) = ((n.natAbs : Nat) : Int)) := by
      show _ = _
      rw [IntKind.wrap_u64, IntKind.wrap_u64]; omega
    have HB : Hid (IntKind.u64.wrap (-IntKind.u64.wrap n) ≤ 18446744073709551615) := by
      show _ ≤ _
      rw [HW.out]; omega
    have HZ : Hid (sg true n.natAbs = n) := by show _ = _; rw [sg_true]; omega
    go_enter Tryz.func79, Tryz.ntmps79
    go_wp2_with fail
    refine (of_any _ n.natAbs _ HW.out HB.out).mono ?_
    rintro e w1 ⟨v1, rfl, k1, f1, b1⟩
    obtain ⟨A1, C1, rfl, _⟩ := id k1
    go_wp2_with fail
    refine (signed_pd true _ n.natAbs n _ k1 f1 HZ.out).mono ?_
    rintro e w2 ⟨v2, rfl, ⟨⟨u2, rfl, k2⟩, f2⟩, b2⟩
    obtain ⟨A2, C2, rfl, _⟩ := id k2
    have B2 := ((Blk.new w 42 #[.bool false, .slice none 0 0]).below b1).below b2
    obtain ⟨c0, c1, g0, g1⟩ := B2.two
    have bb1 := (below_alloc (Nat.le_refl w.heap.size) (.cells #[.bool false, .slice none 0 0] 42)).trans (b1.mono (by simp))
    have bb2 := bb1.trans (b2.mono bb1.size)
    go_wp2
    exact bodyPost_ret (v := .agg #[.bool (ngB n), .slice A2 (digs 4294967296 n.natAbs).length C2]) (by simp [results, Tryz.results79, go_sem, c0, c1]) rfl (endZ bb2 (Nat.le_refl _) (by simp) k2 (f2 _ _ rfl) rfl)
  · have HW : Hid (n = ((n.natAbs : Nat) : Int)) := by show _ = _; omega
    have HZ : Hid (sg false n.natAbs = n) := by show _ = _; rw [sg_false]; omega
    have hn0 : 0 ≤ n := by omega
    go_enter Tryz.func79, Tryz.ntmps79
    go_wp2_with fail
    refine (of_any _ n.natAbs _ HW.out (by omega)).mono ?_
    rintro e w1 ⟨v1, rfl, k1, f1, b1⟩
    obtain ⟨A1, C1, rfl, _⟩ := id k1
    go_wp2_with fail
    refine (signed_pd false _ n.natAbs n _ k1 f1 HZ.out).mono ?_
    rintro e w2 ⟨v2, rfl, ⟨⟨u2, rfl, k2⟩, f2⟩, b2⟩
    obtain ⟨A2, C2, rfl, _⟩ := id k2
    have B2 := ((Blk.new w 42 #[.bool false, .slice none 0 0]).below b1).below b2
    obtain ⟨c0, c1, g0, g1⟩ := B2.two
    have bb1 := (below_alloc (Nat.le_refl w.heap.size) (.cells #[.bool false, .slice none 0 0] 42)).trans (b1.mono (by simp))
    have bb2 := bb1.trans (b2.mono bb1.size)
    go_wp2
    exact bodyPost_ret (v := .agg #[.bool (ngB n), .slice A2 (digs 4294967296 n.natAbs).length C2]) (by simp [results, Tryz.results79, go_sem, c0, c1]) rfl (endZ bb2 (Nat.le_refl _) (by simp) k2 (f2 _ _ rfl) rfl)
end Go.Proofs.YtfnohdgnhdfpaaaGreat.whl
namespace Go.Proofs.YtfnohdgnhdfpaaaGreat.whl
open Go.RowKit Go.ChangeShapes Go.WideShapes Go.ChangeAt Go.Joins Go.Deep Go.Proofs.YtfnohdgnhdfpaaaGreat.num Go.Proofs.YtfnohdgnhdfpaaaGreat.mem Go.Proofs.YtfnohdgnhdfpaaaGreat.nat Go.Proofs.YtfnohdgnhdfpaaaGreat.txt Go.Proofs.YtfnohdgnhdfpaaaGreat.str Go.Proofs.YtfnohdgnhdfpaaaGreat.flow
set_option linter.unusedVariables false
theorem trod_nat {H : Type} {enc : TypeId × Value → H} {P : Program} {W : World} {t e : TypeId} {n : Nat} {v : Value} {y : DataW H × List MemPlace} (ht : P.underlying t = some (.slice e)) (he : P.underlying e = some (.int .u64)) (hc : P.cellsOf e = 1)
    (h : DataW.trod enc P W 0 (fun _ => true) true n t [v] = some y) : ∃ l : List Nat, IsS W .u64 v l ∧ Lt 18446744073709551616 l := by
  rcases open_ints ht he hc h with ⟨hcs, hx⟩ | ⟨a, len, cap, zs, hcs, _, hl, hm, hz, hx, hcell, hwz⟩
  · injection hcs with hcs _
    subst hcs
    exact ⟨[], isNil _ _, Lt.nil _⟩
  · injection hcs with hcs _
    subst hcs
    simp only [if_true] at hz
    have hlen : ((zs.take len).map Int.toNat).length = len := by simp; omega
    refine ⟨(zs.take len).map Int.toNat, ⟨some a, cap, by rw [hlen], by rw [hlen]; exact hl, hm, ?_⟩, ?_⟩
    · intro i d hd
      have hi : i < len := by rw [← hlen]; exact (List.getElem?_eq_some_iff.1 hd).1
      have hi2 : i < zs.length := by omega
      refine ⟨a, rfl, ?_⟩
      rw [hcell i hi2]
      have hb := wf_u64 (hwz _ (List.getElem_mem hi2))
      have hd2 : d = (zs[i]).toNat := by
        rw [List.getElem?_map, List.getElem?_take_of_lt hi, List.getElem?_eq_getElem hi2] at hd
        simpa using hd.symm
      rw [List.getD_eq_getElem?_getD, List.getElem?_eq_getElem hi2, hd2]
      simp only [Option.getD_some]
      rw [Int.toNat_of_nonneg hb.1]
    · intro d hd
      obtain ⟨z, hz1, rfl⟩ := List.mem_map.1 hd
      have hb := wf_u64 (hwz z (List.mem_of_mem_take hz1))
      omega
theorem lenZ_add_le {x y : Int} {m n : Nat} (h : lenZ x ≤ m) (h' : lenZ y ≤ n) : lenZ (x + y) ≤ m + n + 1 := by have := lenZ_add x y; omega
theorem lenZ_mul_le {x y : Int} {m n : Nat} (h : lenZ x ≤ m) (h' : lenZ y ≤ n) : lenZ (x * y) ≤ m + n := by have := lenZ_mul x y; omega
/-- A variable that the region made: it holds its type's zero value. -/
def pn (t : TypeId) (cells : Array Value) (B : Nat) : Pd := ⟨fun w v => ∃ g, v = .pointer (some ⟨g, 0, none⟩) ∧ B ≤ g ∧ Blk w g t cells, fun h hb => by obtain ⟨g, e, h1, h2⟩ := h; exact ⟨g, e, h1, h2.below hb⟩⟩
/-- Two whole numbers, and an error's number. -/
def pzz (x y : Int) (n : Int) (B : Nat) : Pd := ⟨fun w t => ∃ v u, t = .tuple #[v, u, .int .i64 n] ∧ IsZ w v x ∧ IsZ w u y ∧ FreshZ B v ∧ FreshZ B u, fun h hb => by obtain ⟨v, u, e, h1, h2, h3⟩ := h; exact ⟨v, u, e, h1.below hb, h2.below hb, h3⟩⟩
def pze (x : Int) (n : Int) (B : Nat) : Pd := ⟨fun w t => ∃ v, t = .tuple #[v, .int .i64 n] ∧ IsZ w v x ∧ FreshZ B v, fun h hb => by obtain ⟨v, e, h1, h2⟩ := h; exact ⟨v, e, h1.below hb, h2⟩⟩
def prr (x y : Int) : Pd := ⟨fun w t => ∃ v u, t = .tuple #[v, u] ∧ IsR w v x ∧ IsR w u y, fun h hb => by obtain ⟨v, u, e, h1, h2⟩ := h; exact ⟨v, u, e, h1.below hb, h2.below hb⟩⟩
theorem RetZZE.pd {x y : Int} {n : Int} {w : World} {e : Ending} {w' : World} {B : Nat} (h : RetZZE x y n w e w') (hB : B ≤ w.heap.size) : RetPd (pzz x y n B) w e w' := by
  obtain ⟨v, u, rfl, h1, h2, h3, h4, h5⟩ := h
  exact ⟨_, rfl, ⟨v, u, rfl, h1, h2, h3.mono hB, h4.mono hB⟩, h5⟩
theorem RetZE.pd {x : Int} {n : Int} {w : World} {e : Ending} {w' : World} {B : Nat} (h : RetZE x n w e w') (hB : B ≤ w.heap.size) : RetPd (pze x n B) w e w' := by
  obtain ⟨v, rfl, h1, h2, h3⟩ := h
  exact ⟨_, rfl, ⟨v, rfl, h1, h2.mono hB⟩, h3⟩
theorem RetRR.pd {x y : Int} {w : World} {e : Ending} {w' : World} (h : RetRR x y w e w') : RetPd (prr x y) w e w' := by
  obtain ⟨v, u, rfl, h1, h2, h3⟩ := h
  exact ⟨_, rfl, ⟨v, u, rfl, h1, h2⟩, h3⟩
end Go.Proofs.YtfnohdgnhdfpaaaGreat.whl
namespace Go.Proofs.YtfnohdgnhdfpaaaGreat.whl
open Go.RowKit Go.Proofs.YtfnohdgnhdfpaaaGreat.num Go.Proofs.YtfnohdgnhdfpaaaGreat.mem Go.Proofs.YtfnohdgnhdfpaaaGreat.nat Go.Proofs.YtfnohdgnhdfpaaaGreat.txt Go.Proofs.YtfnohdgnhdfpaaaGreat.str Go.Proofs.YtfnohdgnhdfpaaaGreat.flow
set_option linter.unusedVariables false
/-- The text l is a sign (or none), and t. -/
def Cut (b : Bool) (l t : List UInt8) : Prop := (b = true ∧ l = 45 :: t) ∨ (b = false ∧ t = l ∧ l.head? ≠ some 45)
def RetCut (b : Bool) (t : List UInt8) (w : World) (e : Ending) (w' : World) : Prop := ∃ R, e = .returned (.tuple #[.string R, .bool b]) ∧ StrIs R t ∧ Below w.heap.size w w'
end Go.Proofs.YtfnohdgnhdfpaaaGreat.whl
namespace Go.Proofs.YtfnohdgnhdfpaaaGreat.flow
open Go.RowKit Go.Proofs.YtfnohdgnhdfpaaaGreat.num Go.Proofs.YtfnohdgnhdfpaaaGreat.mem
set_option linter.unusedVariables false
/-- All but operation q are waited for. -/
def covQ (L : List Oper) (q n : Nat) (o : Oper) : Bool :=
  (List.range n).all fun i => i == q || (onsOf o).contains i || (List.range n).any fun k => decide (i < k) && (!(k == q) && ((L[k]?).map fun x => (onsOf x).contains i).getD false)
theorem covQ_all {L : List Oper} {q : Nat} {o : Oper} {ms : List (Option Value)} (hlen : ms.length = L.length) (h : covQ L q L.length o = true) (hdone : ∀ e ∈ o.after, Region.binds .any e = true → ∃ v, ms[e.on]? = some (some v))
    (hdc : ∀ (j : Nat) (x : Oper) (v : Value), L[j]? = some x → ms[j]? = some (some v) → ∀ e ∈ x.after, Region.binds .any e = true → ∃ v, ms[e.on]? = some (some v)) : ∀ i, i < L.length → i ≠ q → ∃ v, ms[i]? = some (some v) := by
  unfold covQ at h
  have key : ∀ k i, i + k = L.length → i < L.length → i ≠ q → ∃ v, ms[i]? = some (some v) := by
    intro k
    induction k using Nat.strongRecOn with
    | ind k ih =>
      intro i hik hi hiq
      have h1 := List.all_eq_true.1 h i (by simp [hi])
      rw [Bool.or_eq_true, Bool.or_eq_true] at h1
      rcases h1 with (h1 | h1) | h1
      · exact absurd (by simpa using h1) hiq
      · obtain ⟨e, he, hb, rfl⟩ := mem_onsOf.1 (by simpa using h1)
        exact hdone e he hb
      · obtain ⟨m, hm, h2⟩ := List.any_eq_true.1 h1
        rw [Bool.and_eq_true, Bool.and_eq_true] at h2
        have hm2 : m < L.length := by simpa using hm
        have him : i < m := by simpa using h2.1
        have hmq : m ≠ q := by simpa using h2.2.1
        obtain ⟨v, hv⟩ := ih (L.length - m) (by omega) m (by omega) hm2 hmq
        have h3 := h2.2.2
        rw [List.getElem?_eq_getElem hm2] at h3
        obtain ⟨e, he, hb, rfl⟩ := mem_onsOf.1 (by simpa using h3)
        exact hdc m _ v (List.getElem?_eq_getElem hm2) hv e he hb
  intro i hi hiq
  exact key (L.length - i) i (by omega) hi hiq
/-- All of the first n are up but q. -/
def lstq (n m q : Nat) : Array Bool := ((List.replicate n true).set q false ++ List.replicate m false).toArray
theorem lst_but {L : List Oper} {q m : Nat} {ms : List (Option Value)} (hlen : ms.length = L.length) (hbut : ∀ i, i < L.length → i ≠ q → ∃ v, ms[i]? = some (some v)) (hmq : ms[q]? = some none) : lst ms m = lstq L.length m q := by
  unfold lst lstq
  congr 2
  refine List.ext_getElem (by simp [hlen]) fun i h1 h2 => ?_
  have h3 : i < ms.length := by simpa using h1
  rw [List.getElem_map, List.getElem_set]
  by_cases e : q = i
  · subst e
    rw [if_pos rfl]
    rw [List.getElem?_eq_getElem h3] at hmq
    rw [Option.some.inj hmq]; rfl
  · rw [if_neg e]
    obtain ⟨v, hv⟩ := hbut i (by omega) (fun h => e h.symm)
    rw [List.getElem?_eq_getElem h3] at hv
    rw [Option.some.inj hv]; simp
theorem late_main {P : Program} {Q : Exit → Act → World → Prop} {ops : Array Oper} {L L2 : List Oper} {Φ : List Pd} {w0 : World} {a0 : Act} (hop : ops.toList = L ++ L2) (hd : distinctB L = true) (hback : backB 0 L = true) {q : Nat} {oq : Oper} (hq : L[q]? = some oq) (hcov : (L2.all fun o => covB L L.length o || covQ L q L.length o) = true) (hsel : Region.noSelect ops = true) (hfree : Region.free .any ops (lstq L.length L2.length q) q = true) (hrdy : (Region.ready .any ops (lstq L.length L2.length q)).contains q = true) (hQ : ∀ c a w v, Q (.panic c) (a.put oq.dst v) w → Q (.panic c) a w)
    (late : ∀ ms w, St L Φ w0 oq ms w → ∃ v, Yields P ops oq v (putM a0 L ms) ∧ (ph Φ q).p w v) (hA : isA oq = false)
    (ob : Obs P Q ops L Φ w0 a0 0 L)
    (done : ∀ ms w, (∀ i, i < L.length → ∃ v, ms[i]? = some (some v)) → Inv L Φ w0 ms w → wpAny P .any ops Q L2.length (lst ms L2.length) (putM a0 L ms) w) :
    ∀ (k : Nat) (ms : List (Option Value)) (w : World), (ms.filter Option.isNone).length = k → Inv L Φ w0 ms w → wpAny P .any ops Q (k + L2.length) (lst ms L2.length) (putM a0 L ms) w := by
  have hsz : ops.size = L.length + L2.length := by
    have := congrArg List.length hop
    simpa using this
  have hat : ∀ i, ops[i]? = (L ++ L2)[i]? := fun i => by rw [← hop, Array.getElem?_toList]
  intro k
  induction k with
  | zero =>
    intro ms w hk hI
    rw [Nat.zero_add]
    refine done ms w (fun i hi => ?_) hI
    have hi2 : i < ms.length := by rw [hI.len]; exact hi
    rcases hm : ms[i] with _ | v
    · exfalso
      have h1 : ms[i] ∈ ms.filter Option.isNone := List.mem_filter.2 ⟨List.getElem_mem hi2, by rw [hm]; rfl⟩
      rw [List.length_eq_zero_iff.1 hk] at h1
      simp at h1
    · exact ⟨v, by rw [List.getElem?_eq_getElem hi2, hm]⟩
  | succ k ih =>
    intro ms w hk hI
    -- some operation of L has not come up
    have hnot : ¬ ∀ i, i < L.length → ∃ v, ms[i]? = some (some v) := by
      intro hall
      have h0 : ms.filter Option.isNone = [] := by
        rw [List.filter_eq_nil_iff]
        intro m hm
        obtain ⟨i, hi, rfl⟩ := List.mem_iff_getElem.1 hm
        obtain ⟨v, hv⟩ := hall i (by rw [← hI.len]; exact hi)
        rw [List.getElem?_eq_getElem hi] at hv
        rw [Option.some.inj hv]; simp
      rw [h0] at hk; simp at hk
    -- the least one that has not may come up
    have least : ∀ n i, i ≤ n → i < L.length → Region.ready .any ops (lst ms L2.length) = [] → ∃ v, ms[i]? = some (some v) := by
      intro n
      induction n with
      | zero =>
        intro i hin hi hr
        obtain rfl : i = 0 := by omega
        have hi2 : 0 < ms.length := by rw [hI.len]; exact hi
        rcases hm : ms[0] with _ | v
        · exfalso
          have : 0 ∈ Region.ready .any ops (lst ms L2.length) := by
            rw [mem_ready]
            refine ⟨by rw [lst_lt hi2, hm]; rfl, L[0], by rw [hat, List.getElem?_append_left hi, List.getElem?_eq_getElem hi], ?_⟩
            intro e he hb
            have := backB_at L 0 0 _ hback (List.getElem?_eq_getElem hi) e he hb
            omega
          rw [hr] at this; simp at this
        · exact ⟨v, by rw [List.getElem?_eq_getElem hi2, hm]⟩
      | succ n ihn =>
        intro i hin hi hr
        have hi2 : i < ms.length := by rw [hI.len]; exact hi
        rcases hm : ms[i] with _ | v
        · exfalso
          have : i ∈ Region.ready .any ops (lst ms L2.length) := by
            rw [mem_ready]
            refine ⟨by rw [lst_lt hi2, hm]; rfl, L[i], by rw [hat, List.getElem?_append_left hi, List.getElem?_eq_getElem hi], ?_⟩
            intro e he hb
            have h1 := backB_at L 0 i _ hback (List.getElem?_eq_getElem hi) e he hb
            have h3 : e.on < ms.length := by rw [hI.len]; omega
            obtain ⟨v, hv⟩ := ihn e.on (by omega) (by omega) hr
            rw [lst_lt h3]
            rw [List.getElem?_eq_getElem h3] at hv
            rw [Option.some.inj hv]; rfl
          rw [hr] at this; simp at this
        · exact ⟨v, by rw [List.getElem?_eq_getElem hi2, hm]⟩
    have hcnt : ∀ (i : Nat) (v : Value), ms[i]? = some none → ((ms.set i (some v)).filter Option.isNone).length = k := by
      intro i v hmi
      have key : ∀ (l : List (Option Value)) (i : Nat), l[i]? = some none → ((l.set i (some v)).filter Option.isNone).length + 1 = (l.filter Option.isNone).length := by
        intro l
        induction l with
        | nil => intro i h; simp at h
        | cons m l ihl =>
          intro i h
          cases i with
          | zero =>
            obtain rfl : m = none := by simpa using h
            simp
          | succ i =>
            have := ihl i (by simpa using h)
            rw [List.set_cons_succ, List.filter_cons, List.filter_cons]
            split
            · simp only [List.length_cons]; omega
            · exact this
      have := key ms i hmi
      omega
    have hqL : q < L.length := (List.getElem?_eq_some_iff.1 hq).1
    by_cases hbut : ∀ i, i < L.length → i ≠ q → ∃ v, ms[i]? = some (some v)
    · have hq2 : q < ms.length := by rw [hI.len]; exact hqL
      have hmq : ms[q]? = some none := by
        rw [List.getElem?_eq_getElem hq2]
        rcases hm : ms[q] with _ | v
        · rfl
        · exact absurd (fun i hi => by
            by_cases e : i = q
            · subst e; exact ⟨v, by rw [List.getElem?_eq_getElem hq2, hm]⟩
            · exact hbut i hi e) hnot
      have hdq : ∀ e ∈ oq.after, Region.binds .any e = true → ∃ v, ms[e.on]? = some (some v) := by
        intro e he hb
        have := backB_at L 0 q _ hback hq e he hb
        exact hbut e.on (by omega) (by omega)
      obtain ⟨v, hy, hp⟩ := late ms w ⟨hI.len, hI.below, hI.ty, hdq⟩
      have el : lst ms L2.length = lstq L.length L2.length q := lst_but hI.len hbut hmq
      have hoq : ops[q]? = some oq := by rw [hat, List.getElem?_append_left hqL]; exact hq
      have hnext := ih (ms.set q (some v)) w (hcnt q v hmq) (hI.step hq hmq hdq (Below.refl _ _) hp (fun h => by rw [hA] at h; cases h))
      rw [← lst_set v hq2, ← putM_set v L ms a0 q oq hd hq hmq] at hnext
      rw [show k + 1 + L2.length = (k + L2.length) + 1 from by omega]
      exact wpAny_take hoq hsel (by rw [el]; exact hfree) (by rw [el]; exact hrdy) (fun c a w h => hQ c a w v h) hy hnext
    rw [show k + 1 + L2.length = (k + L2.length) + 1 from by omega]
    refine ⟨fun hr => absurd (fun i hi => least i i (Nat.le_refl _) hi hr) hnot, fun i hi => ?_⟩
    obtain ⟨h1, o, ho, haft⟩ := mem_ready.1 hi
    have hdeps : ∀ e ∈ o.after, Region.binds .any e = true → ∃ v, ms[e.on]? = some (some v) := by
      intro e he hb
      have h2 := haft e he hb
      by_cases h3 : e.on < ms.length
      · rw [lst_lt h3] at h2
        obtain ⟨v, hv⟩ := Option.isSome_iff_exists.1 h2
        exact ⟨v, by rw [List.getElem?_eq_getElem h3, hv]⟩
      · rw [lst_ge (by omega)] at h2; cases h2
    by_cases hiL : i < L.length
    · have hi2 : i < ms.length := by rw [hI.len]; exact hiL
      rw [lst_lt hi2] at h1
      have hmi : ms[i]? = some none := by
        rw [List.getElem?_eq_getElem hi2]
        rcases hm : ms[i] with _ | v
        · rfl
        · rw [hm] at h1; cases h1
      have hoL : L[i]? = some o := by rw [hat, List.getElem?_append_left hiL] at ho; exact ho
      have hob := ob.at_ L 0 i o hoL
      rw [Nat.zero_add] at hob
      have hst := hob ms w ⟨hI.len, hI.below, hI.ty, hdeps⟩
      have hcount : ∀ v : Value, ((ms.set i (some v)).filter Option.isNone).length = k := by
        intro v
        have key : ∀ (l : List (Option Value)) (i : Nat), l[i]? = some none → ((l.set i (some v)).filter Option.isNone).length + 1 = (l.filter Option.isNone).length := by
          intro l
          induction l with
          | nil => intro i h; simp at h
          | cons m l ihl =>
            intro i h
            cases i with
            | zero =>
              obtain rfl : m = none := by simpa using h
              simp
            | succ i =>
              have := ihl i (by simpa using h)
              rw [List.set_cons_succ, List.filter_cons, List.filter_cons]
              split
              · simp only [List.length_cons]; omega
              · exact this
        have := key ms i hmi
        omega
      unfold wpOp
      rw [ho]
      simp only []
      by_cases hw : Region.wanted o (yielded ops (putM a0 L ms).tmps) = true
      · rw [if_pos hw] at hst ⊢
        refine .inl (Oper.wp_mono ?_ hst)
        rintro a' w' ⟨v, rfl, hb, hv, ha⟩
        rw [lst_set v hi2, putM_set v L ms a0 i o hd hoL hmi]
        exact ih _ w' (hcount v) (hI.step hoL hmi hdeps hb hv ha)
      · rw [if_neg hw] at hst ⊢
        rw [lst_set undef hi2, putM_set undef L ms a0 i o hd hoL hmi]
        exact ih _ w (hcount undef) (hI.step hoL hmi hdeps (Below.refl _ _) hst.1 (fun h => by rw [hst.2] at h; cases h))
    · exfalso
      have ho2 : o ∈ L2 := by
        rw [hat, List.getElem?_append_right (by omega)] at ho
        exact List.mem_of_getElem? ho
      have hc := List.all_eq_true.1 hcov o ho2
      rcases Bool.or_eq_true _ _ ▸ hc with hc | hc
      · exact hnot (covB_all hI.len hc hdeps hI.dc)
      · exact hbut (covQ_all hI.len hc hdeps hI.dc)
/-- Each operation's word once; then what stands behind, for whatever values. -/
theorem late_core {P : Program} {Q : Exit → Act → World → Prop} {ops : Array Oper} (n : Nat) (Φ : List Pd) {w : World} {a0 : Act}
    (h1 : distinctB (ops.toList.take n) = true) (h2 : backB 0 (ops.toList.take n) = true) {q : Nat} {oq : Oper} (hq : (ops.toList.take n)[q]? = some oq) (h3 : ((ops.toList.drop n).all fun o => covB (ops.toList.take n) (ops.toList.take n).length o || covQ (ops.toList.take n) q (ops.toList.take n).length o) = true) (h4 : Region.noSelect ops = true) (h5 : Region.free .any ops (lstq (ops.toList.take n).length (ops.toList.drop n).length q) q = true) (h6 : (Region.ready .any ops (lstq (ops.toList.take n).length (ops.toList.drop n).length q)).contains q = true) (hQ : ∀ c a w v, Q (.panic c) (a.put oq.dst v) w → Q (.panic c) a w)
    (late : ∀ ms w1, St (ops.toList.take n) Φ w oq ms w1 → ∃ v, Yields P ops oq v (putM a0 (ops.toList.take n) ms) ∧ (ph Φ q).p w1 v) (hA : isA oq = false)
    (ob : Obs P Q ops (ops.toList.take n) Φ w a0 0 (ops.toList.take n))
    (done : ∀ w', Below w.heap.size w w' → Done (fun a w' => wpAny P .any ops Q (ops.toList.drop n).length (List.replicate (ops.toList.take n).length true ++ List.replicate (ops.toList.drop n).length false).toArray a w') Φ w' 0 (ops.toList.take n) [] a0) : wpAny P .any ops Q ops.size (Array.replicate ops.size false) a0 w := by
  have hop : ops.toList = ops.toList.take n ++ ops.toList.drop n := (List.take_append_drop n _).symm
  generalize ops.toList.take n = L at *
  generalize ops.toList.drop n = L2 at *
  have hsz : ops.size = L.length + L2.length := by
    have := congrArg List.length hop
    simpa using this
  have none_ : ∀ (i : Nat) (v : Value), ¬ (List.replicate L.length (none : Option Value))[i]? = some (some v) := by
    intro i v h
    rw [List.getElem?_replicate] at h
    split at h <;> cases h
  have hI0 : Inv L Φ w (List.replicate L.length none) w := ⟨by simp, Below.refl _ _, fun i v h => absurd h (none_ i v), fun j x v _ h => absurd h (none_ j v), fun i j oi oj u v _ _ _ _ _ h _ => absurd h (none_ i u), fun i oi u _ _ h => absurd h (none_ i u)⟩
  have hmain := late_main (P := P) (Q := Q) (ops := ops) (L := L) (L2 := L2) (Φ := Φ) (w0 := w) (a0 := a0) hop h1 h2 hq h3 h4 h5 h6 hQ late hA ob (fun ms w' hall hI => by
    rw [lst_end L2.length hI.len hall]
    have := done_all (K := fun a w' => wpAny P .any ops Q L2.length (List.replicate L.length true ++ List.replicate L2.length false).toArray a w') hI hall L 0 a0 [] (by simp) (by omega) (by simp) (done w' hI.below)
    simpa using this) L.length (List.replicate L.length none) w (by simp) hI0
  rw [putM_none, lst_start, ← hsz] at hmain
  exact hmain
/-- A region that draws its order: each operation's word once; then what stands behind, for whatever values. -/
theorem flowl {P : Program} {Q : Exit → Act → World → Prop} {id : Nat} {ops : Array Oper} (n : Nat) (Φ : List Pd) {w : World} {a0 : Act} (hm : P.follows .mixedOrders = true)
    (q : Nat) {oq : Oper} (hq : (ops.toList.take n)[q]? = some oq) (hB : (distinctB (ops.toList.take n) && backB 0 (ops.toList.take n) && (ops.toList.drop n).all (fun o => covB (ops.toList.take n) (ops.toList.take n).length o || covQ (ops.toList.take n) q (ops.toList.take n).length o) && Region.noSelect ops && Region.free .any ops (lstq (ops.toList.take n).length (ops.toList.drop n).length q) q && (Region.ready .any ops (lstq (ops.toList.take n).length (ops.toList.drop n).length q)).contains q && !isA oq) = true) (hQ : ∀ c a w v, Q (.panic c) (a.put oq.dst v) w → Q (.panic c) a w)
    (late : ∀ ms w1, St (ops.toList.take n) Φ w.drew oq ms w1 → ∃ v, Yields P ops oq v (putM a0 (ops.toList.take n) ms) ∧ (ph Φ q).p w1 v)
    (ob : Obs P Q ops (ops.toList.take n) Φ w.drew a0 0 (ops.toList.take n))
    (done : ∀ w', Below w.heap.size w w' → Done (fun a w' => wpAny P .any ops Q (ops.toList.drop n).length (List.replicate (ops.toList.take n).length true ++ List.replicate (ops.toList.drop n).length false).toArray a w') Φ w' 0 (ops.toList.take n) [] a0) : (Code.region id ops true).wp P Q a0 w := by
  simp only [Bool.and_eq_true] at hB
  obtain ⟨⟨⟨⟨⟨⟨h1, h2⟩, h3⟩, h4⟩, h5⟩, h6⟩, hA⟩ := hB
  have hA : isA oq = false := by simpa using hA
  exact wp_region_any hm (late_core n Φ (w := w.drew) h1 h2 hq h3 h4 h5 h6 hQ late hA ob fun w' hb => done w' ((Below.refl _ w).drew.trans hb))
/-- The late operation is an extract. -/
theorem late_extract {P : Program} {ops : Array Oper} {L : List Oper} {Φ : List Pd} {w0 : World} {a0 : Act} {o : Oper} {G : Pd} {x : Operand} {k : Nat} {F : World → Value → Prop} (hop : o.op = .extract x k) (hg : o.guard = none) (hx : Ev L Φ w0 a0 o x F)
    (hr : ∀ w u, F w u → ∃ v, (∀ w, (Instr.extract u k).run P w = .ok v w) ∧ G.p w v) : ∀ ms w1, St L Φ w0 o ms w1 → ∃ v, Yields P ops o v (putM a0 L ms) ∧ G.p w1 v := by
  intro ms w1 hS
  obtain ⟨v, h1, h2⟩ := hr w1 _ (hx ms w1 hS)
  refine ⟨v, .inl ⟨by unfold Region.wanted; rw [hg], fun w => ?_⟩, h2⟩
  unfold execOp; simp only [hop]; rw [Sem.run_bind, h1]; rfl
section
variable {P : Program} {Q : Exit → Act → World → Prop} {ops : Array Oper} {L : List Oper} {Φ : List Pd} {w0 : World} {a0 : Act} {i : Nat} {o : Oper}
theorem ob_build2b {t : TypeId} {k l : Nat} {x y : Operand} {F G : World → Value → Prop} (hop : o.op = .build t #[(k, x), (l, y)]) (hw : Wt ops L Φ w0 a0 o true) (hx : Ev L Φ w0 a0 o x F) (hy : Ev L Φ w0 a0 o y G)
    (hr : ∀ w u u', Below w0.heap.size w0 w → F w u → G w u' → ∃ v, (Instr.build t #[(k, u), (l, u')]).run P w = .ok v w ∧ (ph Φ i).p w v) : Ob P Q ops L Φ w0 a0 i o :=
  ob_val hw (by unfold isA; rw [hop]) fun ms w hS => by
    obtain ⟨v, h1, h2⟩ := hr w _ _ hS.below (hx ms w hS) (hy ms w hS)
    exact ⟨v, by unfold execOp; simp only [hop, Sem.run_bind, List.map_toArray, List.map_cons, List.map_nil, h1]; rfl, h2⟩
end
end Go.Proofs.YtfnohdgnhdfpaaaGreat.flow
namespace Go.Proofs.YtfnohdgnhdfpaaaGreat.whl
open Go.RowKit Go.Proofs.YtfnohdgnhdfpaaaGreat.num Go.Proofs.YtfnohdgnhdfpaaaGreat.mem Go.Proofs.YtfnohdgnhdfpaaaGreat.nat Go.Proofs.YtfnohdgnhdfpaaaGreat.txt Go.Proofs.YtfnohdgnhdfpaaaGreat.str Go.Proofs.YtfnohdgnhdfpaaaGreat.flow
set_option linter.unusedVariables false
theorem vars1 (w : World) (t1 : TypeId) (x : Array Value) : ∃ wx, w.alloc (.cells x t1) = wx ∧ Below w.heap.size w wx ∧ Blk wx w.heap.size t1 x ∧ w.heap.size < wx.heap.size := ⟨_, rfl, below_alloc (Nat.le_refl _) _, Blk.new w t1 x, by simp⟩
/-- A printed text is this one string. -/
theorem RetStrB.pd {l : List UInt8} {w : World} {e : Ending} {w' : World} (h : RetStrB l w e w') : RetPd (Pd.eq (.string ⟨l.toArray⟩)) w e w' := by
  obtain ⟨R, rfl, hR, hb⟩ := h
  exact ⟨_, rfl, by rw [hR.is]; rfl, hb⟩
end Go.Proofs.YtfnohdgnhdfpaaaGreat.whl
namespace Go.Proofs.YtfnohdgnhdfpaaaGreat.nat
open Go.RowKit Go.Proofs.YtfnohdgnhdfpaaaGreat.num Go.Proofs.YtfnohdgnhdfpaaaGreat.mem
set_option linter.unusedVariables false
set_option maxHeartbeats 800000 in
theorem mulAdd_zero (v : Value) (c : Nat) (w : World) (h : IsS w .i64 v []) (c1 : c ≤ 9223372036854775807) :
    Calls Tryz.prog 135 #[v, .int .i64 1, .int .i64 (c : Int)] w (RetS .i64 (digs 10000 c) w) := by
  obtain ⟨A, cap, rfl, hcap, hcm, hr⟩ := h
  have h20 : c < 10000 ^ 5 := by
    have : (10000 : Nat) ^ 5 = 100000000000000000000 := by decide
    omega
  have H20 := Lib.hid h20
  clear h20
  go_enter Tryz.func135, Tryz.ntmps135
  go_wp2
  go_loopw [2, 7, 8] (fun vc vo vi wr => Own wr w.heap.size 3 .i64 vo [] ∧ Below w.heap.size w wr ∧ vc = .int .i64 (c : Int) ∧ vi = .int .i64 0) (fun _ _ _ _ => 0)
  case atStart => exact ⟨own_lit0 w _ _ .i64 (Nat.le_refl _), below_alloc (Nat.le_refl _) _, rfl, rfl⟩
  case round =>
    obtain ⟨hown, hb, rfl, rfl⟩ := hrel
    go_wp2
    go_loopw [2, 7] (fun vc vo wr => ∃ (c' j : Nat) (o : List Nat), c' ≤ 9223372036854775807 ∧ Hid (c' < 10000 ^ j) ∧ o.length + j ≤ 5 ∧ MB c c' o ∧ Own wr w.heap.size 3 .i64 vo o ∧ Below w.heap.size w wr ∧ vc = .int .i64 (c' : Int)) (fun vc _ _ => (intOf vc).toNat)
    case atStart => exact ⟨c, 5, [], c1, H20, by simp, by unfold MB; exact ⟨Lt.nil _, by simp [val]⟩, hown, hb, rfl⟩
    case round =>
      clear hown hb
      obtain ⟨c2, j, o2, hc', HJ, hoj, hM, hown, hb, rfl⟩ := hrel
      have hsz := hb.size
      by_cases hp : 0 < c2
      · have HM := Lib.hid hM.step
        clear hM
        obtain ⟨j, rfl⟩ : ∃ i, j = i + 1 := by
          rcases j with _ | j
          · have := HJ.out; simp at this; omega
          · exact ⟨j, rfl⟩
        have HJ2 : Hid (c2 / 10000 < 10000 ^ j) := by
          show _ < _
          have := HJ.out
          rw [Nat.pow_succ] at this
          exact Nat.div_lt_of_lt_mul (by rw [Nat.mul_comm]; exact this)
        go_wp2_with (at_builtin; refine wpList_append_one rfl (.tmp 33) (.tmp 36) rfl sl33 (c2 % 10000) rfl hown rfl (by omega) (by omega) (by omega) ?_; intro v' w1 hown1 hb1 hg1)
        go_roundw
        case rel => exact ⟨_, j, _, by omega, HJ2, by simp; omega, HM.out, hown1, hb.trans hb1, int_eq (by omega)⟩
        case measure => simp [intOf]; omega
      · obtain rfl : c2 = 0 := by omega
        obtain ⟨h1, h2⟩ := hM.done
        have HV := Lib.hid h2
        clear h2 hM
        go_wp2_with fail
        refine (refTrim_any _ _ _ hown.isS h1 (by omega)).mono ?_
        rintro e w' ⟨v', rfl, hv, hf, hb2⟩
        go_wp2
        go_ret
        exact ⟨_, rfl, by rw [HV.out] at hv; exact hv, hf.mono hsz, hb.trans (hb2.mono hsz)⟩
set_option maxHeartbeats 400000 in
/-- Of any number that is an int. -/
theorem refNum_wide (nI : Int) (n : Nat) (w : World) (hn : nI = (n : Int)) (n1 : n ≤ 9223372036854775807) :
    Calls Tryz.prog 110 #[.int .i64 nI] w (RetS .i64 (digs 10000 n) w) := by
  subst hn
  go_enter Tryz.func110, Tryz.ntmps110
  go_wp2_with fail
  refine (mulAdd_zero _ n _ (own_lit0 w w.heap.size _ .i64 (Nat.le_refl _)).isS n1).mono ?_
  rintro e w' ⟨v', rfl, hv, hf, hb⟩
  go_wp2
  go_ret
  exact ⟨_, rfl, hv, hf.mono (by simp), (below_alloc (Nat.le_refl _) _).trans (hb.mono (by simp))⟩
end Go.Proofs.YtfnohdgnhdfpaaaGreat.nat
namespace Go.Proofs.YtfnohdgnhdfpaaaGreat.whl
open Go.RowKit Go.Proofs.YtfnohdgnhdfpaaaGreat.num Go.Proofs.YtfnohdgnhdfpaaaGreat.mem Go.Proofs.YtfnohdgnhdfpaaaGreat.nat Go.Proofs.YtfnohdgnhdfpaaaGreat.txt Go.Proofs.YtfnohdgnhdfpaaaGreat.str Go.Proofs.YtfnohdgnhdfpaaaGreat.flow
set_option linter.unusedVariables false
section
variable {P : Program}
end
/-- A slice of whole numbers: each as its sign and the slice of its limbs. -/
def IsVZ (w : World) (v : Value) (ps : List (Int × Value)) : Prop := ∃ A c, v = .slice A ps.length c ∧ ps.length ≤ c ∧ ∀ i p, ps[i]? = some p → ∃ ad, A = some ad ∧ w.cell? (ad.add (i * 2)) = some (.bool (ngB p.1)) ∧ w.cell? (ad.add (i * 2 + 1)) = some p.2
def NumsZ (w : World) (ps : List (Int × Value)) : Prop := ∀ p ∈ ps, IsS w .u64 p.2 (digs 4294967296 p.1.natAbs)
def hi (ps : List (Int × Value)) : List (Int × Value) := ps.filter fun p => !ngB p.1
def lo (ps : List (Int × Value)) : List (Int × Value) := ps.filter fun p => ngB p.1
theorem IsVZ.below {w w' : World} {v : Value} {ps : List (Int × Value)} (h : IsVZ w v ps) (hb : Below w.heap.size w w') : IsVZ w' v ps := by
  obtain ⟨A, c, e, h1, h2⟩ := h
  refine ⟨A, c, e, h1, fun i p hp => ?_⟩
  obtain ⟨ad, ha, hc, hd⟩ := h2 i p hp
  exact ⟨ad, ha, (hb.cell (World.block_lt_of_cell? w _ hc)).trans hc, (hb.cell (World.block_lt_of_cell? w _ hd)).trans hd⟩
theorem NumsZ.below {w w' : World} {ps : List (Int × Value)} (h : NumsZ w ps) (hb : Below w.heap.size w w') : NumsZ w' ps := fun p hp => (h p hp).below hb
theorem RowV.other {w w' : World} {base : Nat} {e : TypeId} {v : Value} {vs : List Value} {row : Option Nat} (h : RowV w base e v vs) (hg : w.grownBy w' row) (hne : ∀ g, v.ownBlock = some g → row ≠ some g) : RowV w' base e v vs :=
  World.ownsRow.kept (row := row) h hg (by
    cases hv : v.ownBlock with
    | none => exact .inl rfl
    | some g => exact .inr fun e => hne g hv e.symm)
end Go.Proofs.YtfnohdgnhdfpaaaGreat.whl
namespace Go.Proofs.YtfnohdgnhdfpaaaGreat.whl
open Go.RowKit Go.ChangeShapes Go.WideShapes Go.ChangeAt Go.Joins Go.Deep Go.Proofs.YtfnohdgnhdfpaaaGreat.num Go.Proofs.YtfnohdgnhdfpaaaGreat.mem Go.Proofs.YtfnohdgnhdfpaaaGreat.nat Go.Proofs.YtfnohdgnhdfpaaaGreat.txt Go.Proofs.YtfnohdgnhdfpaaaGreat.str Go.Proofs.YtfnohdgnhdfpaaaGreat.flow
set_option linter.unusedVariables false
/-- A row's cells: a sign and a slice each. -/
def flat (ps : List (Int × Value)) : List Value := ps.flatMap fun p => [.bool (ngB p.1), p.2]
/-- A row of the call's own that holds these whole numbers. -/
def RowZ (w : World) (base : Nat) (v : Value) (ps : List (Int × Value)) : Prop := w.ownsRow base 42 2 v ps.length (flat ps)
theorem RowZ.below {w w' : World} {base : Nat} {v : Value} {ps : List (Int × Value)} (h : RowZ w base v ps) (hb : Below w.heap.size w w') : RowZ w' base v ps :=
  World.ownsRow.kept (row := none) h ⟨hb.os, hb.tape, hb.output, hb.size, fun i hi _ => hb.block i hi⟩ (by cases hv : v.ownBlock <;> simp)
theorem RowZ.other {w w' : World} {base : Nat} {v : Value} {ps : List (Int × Value)} {row : Option Nat} (h : RowZ w base v ps) (hg : w.grownBy w' row) (hne : ∀ g, v.ownBlock = some g → row ≠ some g) : RowZ w' base v ps :=
  World.ownsRow.kept (row := row) h hg (by
    cases hv : v.ownBlock with
    | none => exact .inl rfl
    | some g => exact .inr fun e => hne g hv e.symm)
theorem RowZ.under {w : World} {base : Nat} {v : Value} {ps : List (Int × Value)} (h : RowZ w base v ps) : ∀ g, v.ownBlock = some g → g < w.heap.size := fun g hg => (World.ownsRow.lt h g hg).2
theorem RowZ.base_le {w : World} {base : Nat} {v : Value} {ps : List (Int × Value)} (h : RowZ w base v ps) : ∀ g, v.ownBlock = some g → base ≤ g := fun g hg => (World.ownsRow.lt h g hg).1
/-- Whole numbers in a row that lie elsewhere than the row itself. -/
def FarZ (w : World) (v : Value) (ps : List (Int × Value)) : Prop := ∀ p ∈ ps, IsS w .u64 p.2 (digs 4294967296 p.1.natAbs) ∧ Far v p.2
theorem FarZ.below {w w' : World} {v : Value} {ps : List (Int × Value)} (h : FarZ w v ps) (hb : Below w.heap.size w w') : FarZ w' v ps := fun p hp => ⟨(h p hp).1.below hb, (h p hp).2⟩
theorem FarZ.snoc {w w' : World} {v v' u : Value} {z : Int} {ps : List (Int × Value)} (h : FarZ w v ps) (hk : Keeps w w' v v') (hu : IsS w .u64 u (digs 4294967296 z.natAbs)) (hf : Far v u) : FarZ w' v' (ps ++ [(z, u)]) := by
  intro p hp
  rcases List.mem_append.1 hp with hp | hp
  · exact hk _ _ _ (h p hp).1 (h p hp).2
  · obtain rfl := List.mem_singleton.1 hp
    exact hk _ _ _ hu hf
theorem FarZ.off {w w' : World} {v : Value} {ps : List (Int × Value)} {g : Nat} {e : TypeId} {cs : Array Value} (h : FarZ w v ps) (hB : w.heap[g]? = some (.cells cs e (0, 0))) (hno : ∀ k, ∀ c ∈ cs, ∀ n, c ≠ .int k n) (hg : w.grownBy w' (some g)) : FarZ w' v ps := fun p hp => ⟨Go.Proofs.YtfnohdgnhdfpaaaGreat.flow.off (h p hp).1 hB (hno _) hg, (h p hp).2⟩
theorem Blk.other {w w' : World} {g : Nat} {t : TypeId} {cs : Array Value} {row : Option Nat} (h : Blk w g t cs) (hg : w.grownBy w' row) (hne : row ≠ some g) : Blk w' g t cs := (hg.block g h.lt (fun e => hne e.symm)).trans h
theorem IsVZ.drew {w : World} {v : Value} {ps : List (Int × Value)} (h : IsVZ w v ps) : IsVZ w.drew v ps := h
theorem NumsZ.drew {w : World} {ps : List (Int × Value)} (h : NumsZ w ps) : NumsZ w.drew ps := fun p hp => (h p hp).drew
theorem dig32 {x : Nat} (h : x ≤ 9223372036854775808) : (digs 4294967296 x).length ≤ 2 := digs_len_le (by omega) (Nat.lt_of_le_of_lt h (by decide))
end Go.Proofs.YtfnohdgnhdfpaaaGreat.whl
namespace Go.Proofs.YtfnohdgnhdfpaaaGreat.flow
open Go.RowKit Go.Proofs.YtfnohdgnhdfpaaaGreat.num Go.Proofs.YtfnohdgnhdfpaaaGreat.mem
set_option linter.unusedVariables false
/-- Each yields a value as told, in whatever world. -/
def Lates (P : Program) (ops : Array Oper) (L : List Oper) (Φ : List Pd) (w0 : World) (a0 : Act) : List Nat → Prop
  | [] => True
  | q :: qs => (∃ oq, L[q]? = some oq ∧ ∀ ms w1, St L Φ w0 oq ms w1 → ∃ v, Yields P ops oq v (putM a0 L ms) ∧ (ph Φ q).p w1 v) ∧ Lates P ops L Φ w0 a0 qs
section
variable {P : Program} {ops : Array Oper} {L : List Oper} {Φ : List Pd} {w0 : World} {a0 : Act} {o : Oper} {G : Pd}
end
theorem Lates.at_ {P : Program} {ops : Array Oper} {L : List Oper} {Φ : List Pd} {w0 : World} {a0 : Act} : ∀ (pre : List Nat) (q : Nat) (rest : List Nat), Lates P ops L Φ w0 a0 (pre ++ q :: rest) → ∃ oq, L[q]? = some oq ∧ ∀ ms w1, St L Φ w0 oq ms w1 → ∃ v, Yields P ops oq v (putM a0 L ms) ∧ (ph Φ q).p w1 v
  | [], q, rest, h => h.1
  | a :: pre, q, rest, h => Lates.at_ pre q rest h.2
section
variable {P : Program} {Q : Exit → Act → World → Prop} {ops : Array Oper} {o : Oper}
theorem ob_field {L : List Oper} {Φ : List Pd} {w0 : World} {a0 : Act} {i : Nat} {t : TypeId} {x : Operand} {k : Nat} {F : World → Value → Prop} (hop : o.op = .field t x k) (hw : Wt ops L Φ w0 a0 o true) (hx : Ev L Φ w0 a0 o x F) (hr : ∀ w u, F w u → ∃ v, (Instr.field t u k).run P w = .ok v w ∧ (ph Φ i).p w v) : Ob P Q ops L Φ w0 a0 i o :=
  ob_val hw (by unfold isA; rw [hop]) fun ms w hS => by
    obtain ⟨v, h1, h2⟩ := hr w _ (hx ms w hS)
    exact ⟨v, by unfold execOp; simp only [hop, Sem.run_bind, h1]; rfl, h2⟩
end
end Go.Proofs.YtfnohdgnhdfpaaaGreat.flow
namespace Go.Proofs.YtfnohdgnhdfpaaaGreat.flow
open Go.RowKit Go.Proofs.YtfnohdgnhdfpaaaGreat.num Go.Proofs.YtfnohdgnhdfpaaaGreat.mem Go.Proofs.YtfnohdgnhdfpaaaGreat.nat Go.Proofs.YtfnohdgnhdfpaaaGreat.txt Go.Proofs.YtfnohdgnhdfpaaaGreat.str
set_option linter.unusedVariables false
section
variable {P : Program} {Q : Exit → Act → World → Prop} {ops : Array Oper} {o : Oper}
end
section
variable {P : Program} {Q : Exit → Act → World → Prop} {ops : Array Oper} {L : List Oper} {Φ : List Pd} {w0 : World} {a0 : Act} {i : Nat} {o : Oper}
theorem ob_indexAddr {t : TypeId} {x y : Operand} {F G : World → Value → Prop} (hop : o.op = .indexAddr t x y) (hw : Wt ops L Φ w0 a0 o true) (hx : Ev L Φ w0 a0 o x F) (hy : Ev L Φ w0 a0 o y G)
    (hr : ∀ w u v, F w u → G w v → ∃ r, (Instr.indexAt t u v).run P w = .ok r w ∧ (ph Φ i).p w r) : Ob P Q ops L Φ w0 a0 i o :=
  ob_val hw (by unfold isA; rw [hop]) fun ms w hS => by
    obtain ⟨v, h1, h2⟩ := hr w _ _ (hx ms w hS) (hy ms w hS)
    exact ⟨v, by unfold execOp; simp only [hop, Sem.run_bind, h1]; rfl, h2⟩
end
end Go.Proofs.YtfnohdgnhdfpaaaGreat.flow
namespace Go.Proofs.YtfnohdgnhdfpaaaGreat.rat
open Go.RowKit Go.Proofs.YtfnohdgnhdfpaaaGreat.num Go.Proofs.YtfnohdgnhdfpaaaGreat.mem Go.Proofs.YtfnohdgnhdfpaaaGreat.nat Go.Proofs.YtfnohdgnhdfpaaaGreat.txt Go.Proofs.YtfnohdgnhdfpaaaGreat.str Go.Proofs.YtfnohdgnhdfpaaaGreat.flow Go.Proofs.YtfnohdgnhdfpaaaGreat.whl
set_option linter.unusedVariables false
theorem add_len_max {x y m : Nat} (hx : (digs 4294967296 x).length ≤ m) (hy : (digs 4294967296 y).length ≤ m) : (digs 4294967296 (x + y)).length ≤ m + 1 := by
  have h1 := Nat.lt_of_lt_of_le (digs_lt_pow (B := 4294967296) (by omega) x) (Nat.pow_le_pow_right (by omega) hx)
  have h2 := Nat.lt_of_lt_of_le (digs_lt_pow (B := 4294967296) (by omega) y) (Nat.pow_le_pow_right (by omega) hy)
  refine digs_len_le (by omega) ?_
  rw [Nat.pow_succ]
  omega
theorem lenZ_add_max {x y : Int} {m : Nat} (hx : lenZ x ≤ m) (hy : lenZ y ≤ m) : lenZ (x + y) ≤ m + 1 :=
  Nat.le_trans (digs_len_mono (by omega) (show (x + y).natAbs ≤ x.natAbs + y.natAbs by omega)) (add_len_max hx hy)
theorem lenQ_add2 {x y : Rat} {m n : Nat} (h : lenQ x m) (h' : lenQ y n) : lenQ (x + y) (m + n + 1) := by
  rw [Rat.add_def']
  have e1 := lenZ_mul x.num y.den
  have e2 := lenZ_mul y.num x.den
  have e4 := lenZ_mul x.den y.den
  have h1 := h.1; have h2 := h.2; have h3 := h'.1; have h4 := h'.2
  rw [lenD] at e1 e2
  rw [lenD, lenD, ← Int.natCast_mul, lenD] at e4
  have e3 := lenZ_add_max (x := x.num * y.den) (y := y.num * x.den) (m := m + n) (by omega) (by omega)
  exact lenQ_mk (Nat.mul_ne_zero x.den_nz y.den_nz) e3 (by omega)
/-- An element: a fraction, and the slices of its parts. -/
abbrev Elt := Rat × Value × Value
/-- Its parts read as it, with limbs of this kind. -/
def IsE (k : IntKind) (B : Nat) (w : World) (p : Elt) : Prop := IsS w k p.2.1 (digs B p.1.num.natAbs) ∧ IsS w k p.2.2 (digs B p.1.den)
theorem IsE.below {k : IntKind} {B : Nat} {w w' : World} {p : Elt} (h : IsE k B w p) (hb : Below w.heap.size w w') : IsE k B w' p := ⟨h.1.below hb, h.2.below hb⟩
def cells3 (p : Elt) : List Value := [.bool (ngB p.1.num), p.2.1, p.2.2]
def flat3 (ps : List Elt) : List Value := ps.flatMap cells3
theorem flat3_snoc (ps : List Elt) (p : Elt) : flat3 (ps ++ [p]) = flat3 ps ++ cells3 p := by simp [flat3]
theorem flat3_at : ∀ (ps : List Elt) (i : Nat) (p : Elt), ps[i]? = some p → (flat3 ps)[i * 3]? = some (.bool (ngB p.1.num)) ∧ (flat3 ps)[i * 3 + 1]? = some p.2.1 ∧ (flat3 ps)[i * 3 + 2]? = some p.2.2
  | [], i, p, h => by simp at h
  | q :: ps, 0, p, h => by
    obtain rfl : q = p := by simpa using h
    exact ⟨rfl, rfl, rfl⟩
  | q :: ps, i + 1, p, h => by
    have ih := flat3_at ps i p (by simpa using h)
    have e : flat3 (q :: ps) = .bool (ngB q.1.num) :: q.2.1 :: q.2.2 :: flat3 ps := rfl
    rw [e, show (i + 1) * 3 = i * 3 + 1 + 1 + 1 from by omega]
    simpa using ih
/-- The value is a slice of these elements. -/
def IsVF (w : World) (v : Value) (ps : List Elt) : Prop := ∃ A c, v = .slice A ps.length c ∧ ps.length ≤ c ∧ c ≤ maxLen ∧ ∀ i p, ps[i]? = some p → ∃ g o, A = some ⟨g, o, none⟩ ∧ w.cell? ⟨g, o + i * 3, none⟩ = some (.bool (ngB p.1.num)) ∧ w.cell? ⟨g, o + i * 3 + 1, none⟩ = some p.2.1 ∧ w.cell? ⟨g, o + i * 3 + 2, none⟩ = some p.2.2
theorem IsVF.below {w w' : World} {v : Value} {ps : List Elt} (h : IsVF w v ps) (hb : Below w.heap.size w w') : IsVF w' v ps := by
  obtain ⟨A, c, e, h1, h2, h3⟩ := h
  refine ⟨A, c, e, h1, h2, fun i p hp => ?_⟩
  obtain ⟨g, o, e2, c0, c1, c2⟩ := h3 i p hp
  exact ⟨g, o, e2, (hb.cell (World.block_lt_of_cell? w _ c0)).trans c0, (hb.cell (World.block_lt_of_cell? w _ c1)).trans c1, (hb.cell (World.block_lt_of_cell? w _ c2)).trans c2⟩
/-- The value reads as these fractions, with limbs of this kind. -/
def SlF (k : IntKind) (B : Nat) (w : World) (v : Value) (qs : List Rat) : Prop := ∃ ps : List Elt, ps.map (·.1) = qs ∧ IsVF w v ps ∧ ∀ p ∈ ps, IsE k B w p
theorem SlF.below {k : IntKind} {B : Nat} {w w' : World} {v : Value} {qs : List Rat} (h : SlF k B w v qs) (hb : Below w.heap.size w w') : SlF k B w' v qs := by
  obtain ⟨ps, e, h1, h2⟩ := h
  exact ⟨ps, e, h1.below hb, fun p hp => (h2 p hp).below hb⟩
theorem SlF.shape {k : IntKind} {B : Nat} {w : World} {v : Value} {qs : List Rat} (h : SlF k B w v qs) : ∃ A c, v = .slice A qs.length c ∧ qs.length ≤ c ∧ c ≤ maxLen := by
  obtain ⟨ps, rfl, ⟨A, c, e, h1, h2, _⟩, _⟩ := h
  rw [List.length_map]
  exact ⟨A, c, e, h1, h2⟩
/-- One of them. -/
theorem SlF.at_ {k : IntKind} {B : Nat} {w : World} {A : Option Addr} {n c : Nat} {qs : List Rat} {i : Nat} {q : Rat} (h : SlF k B w (.slice A n c) qs) (hq : qs[i]? = some q) : ∃ g o u t, A = some ⟨g, o, none⟩ ∧ i < n ∧ w.cell? ⟨g, o + i * 3, none⟩ = some (.bool (ngB q.num)) ∧ w.cell? ⟨g, o + i * 3 + 1, none⟩ = some u ∧ w.cell? ⟨g, o + i * 3 + 2, none⟩ = some t ∧ IsS w k u (digs B q.num.natAbs) ∧ IsS w k t (digs B q.den) := by
  obtain ⟨ps, rfl, ⟨A', c', e, h1, h2, h3⟩, h4⟩ := h
  injection e with e1 e2 e3
  subst e1; subst e2; subst e3
  rw [List.getElem?_map] at hq
  cases hp : ps[i]? with
  | none => rw [hp] at hq; cases hq
  | some p =>
    rw [hp] at hq
    obtain rfl : p.1 = q := by simpa using hq
    obtain ⟨g, o, e4, c0, c1, c2⟩ := h3 i p hp
    have h5 := h4 p (List.mem_of_getElem? hp)
    exact ⟨g, o, p.2.1, p.2.2, e4, (List.getElem?_eq_some_iff.1 hp).1, c0, c1, c2, h5.1, h5.2⟩
theorem index3 {P : Program} {t e : TypeId} (hu : P.underlying t = some (.slice e)) (hs : (P.info? e).map (·.size) = some 3) {g o n c k : Nat} (hk : k < n) (w : World) : (Instr.indexAt t (.slice (some ⟨g, o, none⟩) n c) (.int .i64 (k : Int))).run P w = .ok (.pointer (some ⟨g, o + k * 3, none⟩)) w := by
  cases hq : P.info? e with
  | none => simp [hq] at hs
  | some inf =>
    have hsz : inf.size = 3 := by simpa [hq] using hs
    simp [Instr.indexAt, asIntOf, go_sem, run_underlying hu, sizeOf, typeInfo, hq, hsz, hk]
theorem load3 {P : Program} {t : TypeId} {g o : Nat} {x y z : Value} {d : TypeDesc} {w : World} (hu : P.underlying t = some d) (hd : d.isRow = true) (hi : (P.info? t).map (·.size) = some 3) (h0 : w.cell? ⟨g, o, none⟩ = some x) (h1 : w.cell? ⟨g, o + 1, none⟩ = some y) (h2 : w.cell? ⟨g, o + 2, none⟩ = some z) : (Instr.loadAt t (.pointer (some ⟨g, o, none⟩))).run P w = .ok (.agg #[x, y, z]) w :=
  run_loadAt_mid w g o t [x, y, z] d (fun j v hj => by
    match j, hj with
    | 0, hj => simp at hj; subst hj; exact h0
    | 1, hj => simp at hj; subst hj; exact h1
    | 2, hj => simp at hj; subst hj; exact h2
    | j + 3, hj => simp at hj) hu hd hi
/-- A row of the call's own that holds these elements. -/
def RowF (T : TypeId) (w : World) (base : Nat) (v : Value) (ps : List Elt) : Prop := w.ownsRow base T 3 v ps.length (flat3 ps)
theorem RowF.below {T : TypeId} {w w' : World} {base : Nat} {v : Value} {ps : List Elt} (h : RowF T w base v ps) (hb : Below w.heap.size w w') : RowF T w' base v ps :=
  World.ownsRow.kept (row := none) h ⟨hb.os, hb.tape, hb.output, hb.size, fun i hi _ => hb.block i hi⟩ (by cases hv : v.ownBlock <;> simp)
theorem RowF.other {T : TypeId} {w w' : World} {base : Nat} {v : Value} {ps : List Elt} {row : Option Nat} (h : RowF T w base v ps) (hg : w.grownBy w' row) (hne : ∀ g, v.ownBlock = some g → row ≠ some g) : RowF T w' base v ps :=
  World.ownsRow.kept (row := row) h hg (by
    cases hv : v.ownBlock with
    | none => exact .inl rfl
    | some g => exact .inr fun e => hne g hv e.symm)
theorem RowF.under {T : TypeId} {w : World} {base : Nat} {v : Value} {ps : List Elt} (h : RowF T w base v ps) : ∀ g, v.ownBlock = some g → g < w.heap.size := fun g hg => (World.ownsRow.lt h g hg).2
theorem RowF.base_le {T : TypeId} {w : World} {base : Nat} {v : Value} {ps : List Elt} (h : RowF T w base v ps) : ∀ g, v.ownBlock = some g → base ≤ g := fun g hg => (World.ownsRow.lt h g hg).1
theorem RowF.isVF {T : TypeId} {w : World} {base : Nat} {v : Value} {ps : List Elt} (h : RowF T w base v ps) : IsVF w v ps := by
  rcases h.2 with ⟨rfl, h0⟩ | ⟨g, cap, cur, rfl, _, hg, hn, hm, _, _⟩
  · obtain rfl : ps = [] := List.length_eq_zero_iff.1 h0
    exact ⟨none, 0, rfl, by simp, by unfold maxLen; omega, fun i u hu => by simp at hu⟩
  · refine ⟨_, cap, rfl, hn, hm, fun i p hp => ⟨g, 0, rfl, ?_⟩⟩
    have e : ∀ j, (⟨g, 0, none⟩ : Addr).add j = ⟨g, 0 + j, none⟩ := by
      intro j
      unfold Addr.add
      by_cases h : j = 0
      · simp [h]
      · simp [h]
    obtain ⟨f0, f1, f2⟩ := flat3_at ps i p hp
    have k0 := World.ownsRow.cells h (g := g) rfl _ _ f0
    have k1 := World.ownsRow.cells h (g := g) rfl _ _ f1
    have k2 := World.ownsRow.cells h (g := g) rfl _ _ f2
    rw [e] at k0 k1 k2
    exact ⟨k0, by rw [Nat.add_assoc]; exact k1, by rw [Nat.add_assoc]; exact k2⟩
theorem rowF_lit0 (T : TypeId) (w : World) (base : Nat) (hb : base ≤ w.heap.size) : RowF T (w.alloc (.cells #[] T)) base (.slice (some ⟨w.heap.size, 0, none⟩) 0 0) [] := by
  have h := World.ownsRow_lit (e := T) (size := 3) w #[] 0 hb (by simp) (by simp)
  simpa [RowF, flat3] using h
theorem rowF_nil (T : TypeId) (w : World) (base : Nat) : RowF T w base (.slice none 0 0) [] := World.ownsRow_nil w base T 3
/-- Elements of a row whose slices lie elsewhere than the row itself. -/
def FarF (k : IntKind) (B : Nat) (w : World) (v : Value) (ps : List Elt) : Prop := ∀ p ∈ ps, IsE k B w p ∧ Far v p.2.1 ∧ Far v p.2.2
theorem FarF.nil (k : IntKind) (B : Nat) (w : World) (v : Value) : FarF k B w v [] := fun p hp => by cases hp
theorem FarF.below {k : IntKind} {B : Nat} {w w' : World} {v : Value} {ps : List Elt} (h : FarF k B w v ps) (hb : Below w.heap.size w w') : FarF k B w' v ps := fun p hp => ⟨(h p hp).1.below hb, (h p hp).2⟩
theorem FarF.snoc {k : IntKind} {B : Nat} {w w' : World} {v v' : Value} {ps : List Elt} {p : Elt} (h : FarF k B w v ps) (hk : Keeps w w' v v') (hp : IsE k B w p) (f1 : Far v p.2.1) (f2 : Far v p.2.2) : FarF k B w' v' (ps ++ [p]) := by
  intro r hr
  rcases List.mem_append.1 hr with hr | hr
  · obtain ⟨⟨a1, a2⟩, b1, b2⟩ := h r hr
    have x1 := hk _ _ _ a1 b1
    have x2 := hk _ _ _ a2 b2
    exact ⟨⟨x1.1, x2.1⟩, x1.2, x2.2⟩
  · obtain rfl := List.mem_singleton.1 hr
    have x1 := hk _ _ _ hp.1 f1
    have x2 := hk _ _ _ hp.2 f2
    exact ⟨⟨x1.1, x2.1⟩, x1.2, x2.2⟩
theorem RowF.sl {T : TypeId} {k : IntKind} {B : Nat} {w : World} {base : Nat} {v : Value} {ps : List Elt} (h : RowF T w base v ps) (hf : FarF k B w v ps) : SlF k B w v (ps.map (·.1)) := ⟨ps, rfl, h.isVF, fun p hp => (hf p hp).1⟩
section
variable {P : Program}
/-- 'all = append(all, x)', all a row of fractions of the call's own. -/
theorem wpList_append_q {w : World} {ops : Array Oper} {rest : List Oper} {o : Oper} {a : Act} {Q : Exit → Act → World → Prop} (hgd : o.guard = none) (s x : Operand) {t : TypeId}
    (ho : o.op = .call { callee := .builtin .append, args := #[s, x], argTypes := #[t, t] })
    {base : Nat} {T : TypeId} (hT : P.underlying t = some (.slice T)) (hI : ∃ i, P.info? T = some i ∧ i.zero = some (.agg #[.bool false, .slice none 0 0, .slice none 0 0]) ∧ i.size = 3 ∧ i.bytes = 56) {v : Value} {p : Elt} {ps : List Elt} (hs : a.eval s = v) (hown : RowF T w base v ps) (hx : a.eval x = .slice (some ⟨w.heap.size, 0, none⟩) 1 1) (h1 : p.2.1.oneCell' = true) (h2 : p.2.2.oneCell' = true)
    (hlen : ps.length ≤ 1000000000) (hbase : base ≤ w.heap.size)
    (h : ∀ v' w', RowF T w' base v' (ps ++ [p]) → Below base w w' → Hid (Keeps w w' v v' ∧ w.grownBy w' v.ownBlock ∧ ∀ g, g < w.heap.size → v.ownBlock ≠ some g → v'.ownBlock ≠ some g) → wpList P ops Q rest (a.put o.dst v') w') : wpList P ops Q (o :: rest) a (w.alloc (.cells #[.bool (ngB p.1.num), p.2.1, p.2.2] T)) := by
  obtain ⟨i, hi, hz, hsz, hby⟩ := hI
  refine wpList_append_lies (w.alloc (.cells #[.bool (ngB p.1.num), p.2.1, p.2.2] T)) hgd s x t ho base T i (.agg #[.bool false, .slice none 0 0, .slice none 0 0]) 3 56 hT hi hz hsz hby rfl (by omega) v ps.length (flat3 ps) hs (World.ownsRow.alloc hown _) ⟨w.heap.size, 0, none⟩ 1 1 [.bool (ngB p.1.num), p.2.1, p.2.2] hx rfl ?_ ?_ (by omega) (by unfold maxLen; omega) (by omega) (by simp; omega) _ rfl ?_
  · exact World.news_of_block (heap_alloc_new w _)
  · exact one3 rfl h1 h2
  · intro g cap w' g1 g2 g3 g4
    have h5 : w.grownBy w' v.ownBlock := grown_trans (World.grownBy_alloc w _ _) g2
    refine h _ w' (by unfold RowF; rw [List.length_append, flat3_snoc]; exact g1) ((Below.refl base w).grown h5 hbase hown.base_le) ?_
    refine ⟨?_, h5, fun k hk hne e1 => ?_⟩
    · intro k q l hq hf
      refine ⟨hq.farKept hf h5, ?_⟩
      rintro ad n c rfl hn
      rcases g3 with h3 | h3
      · have := hf ad n c rfl hn
        rw [h3] at this
        exact this
      · subst h3
        intro e1
        have e2 : ad.block = (w.alloc (.cells #[.bool (ngB p.1.num), p.2.1, p.2.2] T)).heap.size := by simpa [Value.ownBlock] using e1
        obtain ⟨A, c', e3, k1, k2, k3⟩ := hq
        injection e3 with e3 e4 e5
        subst e3; subst e4
        obtain ⟨ad', he, hc⟩ := k3 0 _ (List.getElem?_eq_getElem hn)
        injection he with he; subst he
        have h6 := World.block_lt_of_cell? w _ hc
        rw [Go.ChangeShapes.block_add] at h6
        simp at e2
        omega
    · have e2 : g = k := by simpa [Value.ownBlock] using e1
      subst e2
      rcases g3 with h3 | h3
      · exact hne h3
      · simp at h3; omega
end
theorem info_rat : ∃ i, Tryz.prog.info? 44 = some i ∧ i.zero = some (.agg #[.bool false, .slice none 0 0, .slice none 0 0]) ∧ i.size = 3 ∧ i.bytes = 56 := info_parts (P := Tryz.prog) (e := 44) (z := .agg #[.bool false, .slice none 0 0, .slice none 0 0]) (size := 3) (bytes := 56) (by kernel_rfl)
theorem info_q : ∃ i, Tryz.prog.info? 55 = some i ∧ i.zero = some (.agg #[.bool false, .slice none 0 0, .slice none 0 0]) ∧ i.size = 3 ∧ i.bytes = 56 := info_parts (P := Tryz.prog) (e := 55) (z := .agg #[.bool false, .slice none 0 0, .slice none 0 0]) (size := 3) (bytes := 56) (by kernel_rfl)
set_option maxRecDepth 100000
theorem arrK : Go.WideMaps.ArrKey Tryz.prog 132 3 2 := ⟨Tryz.underlying132, by kernel_rfl, by kernel_rfl, by kernel_rfl⟩
theorem keyK : Go.Maps.Keyed Tryz.prog 132 := Go.Maps.Keyed.of_law arrK.law
theorem typesK : ∃ m, (Tryz.prog).types.size = m + 1 := by
  have h : 0 < (Tryz.prog).types.size := of_decide_eq_true (by kernel_rfl)
  exact ⟨_, (Nat.succ_pred_eq_of_pos h).symm⟩
/-- A key. -/
def klit (a b : Int) : Lit := .string (keyBytes [.int .i64 a, .int .i64 b])
def I64 (a : Int) : Prop := -9223372036854775808 ≤ a ∧ a ≤ 9223372036854775807
theorem I64.wf {a : Int} (h : I64 a) : (Lit.int .i64 a).wf = true := by
  simp only [Lit.wf, Bool.and_eq_true, decide_eq_true_eq]
  exact h
theorem i64_wf {a : Int} (h : (Lit.int .i64 a).wf = true) : I64 a := by
  simp only [Lit.wf, Bool.and_eq_true, decide_eq_true_eq] at h
  exact h
theorem keyOf_k {a b : Int} (ha : I64 a) (hb : I64 b) : keyOf Tryz.prog 132 (.agg #[.int .i64 a, .int .i64 b]) = some (klit a b) := Go.WideMaps.keyOf_pair arrK Tryz.underlying3 typesK ha.wf hb.wf
theorem klit_inj {a b c d : Int} (ha : I64 a) (hb : I64 b) (hc : I64 c) (hd : I64 d) (h : klit a b = klit c d) : a = c ∧ b = d := by
  have h1 := keyK.inj (keyOf_k ha hb) (h ▸ keyOf_k hc hd)
  injection h1 with h1
  have h1 := congrArg Array.toList h1
  simp at h1
  exact h1
theorem int_lits {m : Nat} {v : Value} {ls : List Lit} (h : (Tryz.prog).keyLits m 3 [v] = some ls) : ∃ a, v = .int .i64 a ∧ I64 a ∧ ls = [.int .i64 a] := by
  cases m with
  | zero => cases h
  | succ m =>
    unfold Program.keyLits at h
    rw [Tryz.underlying3] at h
    cases v <;> simp at h
    rename_i q a
    obtain ⟨⟨rfl, hw⟩, rfl⟩ := h
    exact ⟨a, rfl, i64_wf hw, rfl⟩
theorem key_inv {v : Value} {l : Lit} (h : keyOf Tryz.prog 132 v = some l) : ∃ a b, v = .agg #[.int .i64 a, .int .i64 b] ∧ I64 a ∧ I64 b ∧ l = klit a b := by
  unfold keyOf at h
  simp only [arrK.hu] at h
  split at h
  · rename_i hc
    simp only [Bool.and_eq_true] at hc
    have hf := hc.2
    obtain ⟨m, hm⟩ := typesK
    rw [hm] at h
    unfold Program.keyLits at h
    simp only [arrK.hu] at h
    cases v with
    | agg cs =>
      obtain ⟨L⟩ := cs
      have hs : L.length = 2 := by
        simp only [Value.formed, arrK.hu, arrK.size, beq_iff_eq] at hf
        exact hf
      match L, hs with
      | [c0, c1], _ =>
        have hv : (Value.agg { toList := [c0, c1] }).cells.toList = [c0, c1] := rfl
        rw [hv] at h
        split at h
        · rw [show List.range 2 = [0, 1] from rfl, List.mapM_cons, List.mapM_cons, List.mapM_nil] at h
          simp only [bind, Option.bind_eq_some_iff, pure, Option.some.injEq, arrK.one, Option.map_eq_some_iff] at h
          obtain ⟨z, ⟨y, ⟨x0, h0, _, ⟨x1, h1, _, rfl, rfl⟩, rfl⟩, rfl⟩, rfl⟩ := h
          obtain ⟨a, ea, ha, rfl⟩ := int_lits h0
          obtain ⟨b, eb, hb, rfl⟩ := int_lits h1
          subst ea; subst eb
          exact ⟨a, b, rfl, ha, hb, rfl⟩
        · cases h
    | _ => simp [Value.formed, arrK.hu] at hf
  · cases h
/-- An element of a map is told as it lies there. -/
def selfR (v : Value) : Option (DataW Value × List MemPlace) := some (.held v, [])
def qv (p : Elt) : Value := .agg #[.bool (ngB p.1.num), p.2.1, p.2.2]
def zq : Value := .agg #[.bool false, .slice none 0 0, .slice none 0 0]
theorem zeroQ (w : World) : (zeroValue 44).run Tryz.prog w = .ok zq w := by kernel_rfl
/-- What the map holds is what of the table is no nought. -/
structure MapD (D : DataW Value) (w : World) (T : List (List Rat)) : Prop where
  hit : ∀ (i j : Nat) (q : Rat), cellq T i j = some q → q ≠ 0 → Maps.has D (klit i j) = true ∧ ∃ p : Elt, (∀ z, D.atKey (klit i j) z = .held (qv p)) ∧ p.1 = q ∧ IsE .u64 4294967296 w p
  miss : ∀ a b : Int, I64 a → I64 b → (∀ (i j : Nat) (q : Rat), a = i → b = j → cellq T i j = some q → q = 0) → Maps.has D (klit a b) = false
  cnt : Maps.size D = cntT T
/-- Block b is such a map. -/
def MapQ (w : World) (b : Nat) (T : List (List Rat)) : Prop := ∃ D, w.ownsMap Tryz.prog 132 selfR b (Maps.size D) D ∧ MapD D w T
theorem MapQ.lt {w : World} {b : Nat} {T : List (List Rat)} (h : MapQ w b T) : b < w.heap.size := let ⟨_, h1, _⟩ := h; h1.lt
theorem MapD.kept {D : DataW Value} {w w' : World} {T : List (List Rat)} (h : MapD D w T) (hk : ∀ p : Elt, IsE .u64 4294967296 w p → IsE .u64 4294967296 w' p) : MapD D w' T :=
  ⟨fun i j q hq h0 => by obtain ⟨h1, p, h2, h3, h4⟩ := h.hit i j q hq h0; exact ⟨h1, p, h2, h3, hk p h4⟩, h.miss, h.cnt⟩
theorem MapQ.below {w w' : World} {b : Nat} {T : List (List Rat)} (h : MapQ w b T) (hb : Below w.heap.size w w') : MapQ w' b T := by
  obtain ⟨D, h1, h2⟩ := h
  exact ⟨D, h1.kept (row := none) ⟨hb.os, hb.tape, hb.output, hb.size, fun i hi _ => hb.block i hi⟩ (by simp), h2.kept fun p hp => hp.below hb⟩
theorem MapQ.drew {w : World} {b : Nat} {T : List (List Rat)} (h : MapQ w b T) : MapQ w.drew b T := h.below (Below.refl _ w).drew
/-- Another block, without limbs, is written. -/
theorem MapQ.grown {w w' : World} {b g : Nat} {T : List (List Rat)} {e : TypeId} {cs : Array Value} (h : MapQ w b T) (hB : w.heap[g]? = some (.cells cs e (0, 0))) (hno : ∀ c ∈ cs, ∀ n, c ≠ .int .u64 n) (hg : w.grownBy w' (some g)) : MapQ w' b T := by
  obtain ⟨D, h1, h2⟩ := h
  have hne : b ≠ g := fun e => by
    obtain ⟨es, ck, h3, _⟩ := h1
    rw [e, hB] at h3
    cases h3
  exact ⟨D, h1.kept hg (fun e => hne (by injection e)), h2.kept fun p hp => ⟨Go.Proofs.YtfnohdgnhdfpaaaGreat.flow.off hp.1 hB hno hg, Go.Proofs.YtfnohdgnhdfpaaaGreat.flow.off hp.2 hB hno hg⟩⟩
/-- The block is a map: no cells lie there. -/
def IsM (w : World) (b : Nat) : Prop := ∃ es ck, w.heap[b]? = some (.map es ck)
theorem MapQ.isM {w : World} {b : Nat} {T : List (List Rat)} (h : MapQ w b T) : IsM w b := by
  obtain ⟨D, ⟨es, ck, h1, _⟩, _⟩ := h
  exact ⟨es, ck, h1⟩
theorem IsM.no_cell {w : World} {b : Nat} (h : IsM w b) {p : Addr} {v : Value} (hp : w.cell? p = some v) : some p.block ≠ some b := by
  obtain ⟨es, ck, h1⟩ := h
  intro e
  injection e with e
  unfold World.cell? at hp
  rw [e, h1] at hp
  cases hp
/-- Limbs lie elsewhere than in a map. -/
theorem IsM.off {w w' : World} {b : Nat} (hm : IsM w b) {k : IntKind} {v : Value} {l : List Nat} (h : IsS w k v l) (hg : w.grownBy w' (some b)) : IsS w' k v l := by
  obtain ⟨A, c, rfl, h1, h2, h3⟩ := h
  refine ⟨A, c, rfl, h1, h2, fun i d hd => ?_⟩
  obtain ⟨ad, rfl, hc⟩ := h3 i d hd
  exact ⟨ad, rfl, hg.cell hc (hm.no_cell hc)⟩
theorem IsM.offE {w w' : World} {b : Nat} (hm : IsM w b) {k : IntKind} {B : Nat} {p : Elt} (h : IsE k B w p) (hg : w.grownBy w' (some b)) : IsE k B w' p := ⟨hm.off h.1 hg, hm.off h.2 hg⟩
theorem IsM.offBlk {w w' : World} {b : Nat} (hm : IsM w b) {g : Nat} {t : TypeId} {cs : Array Value} (h : Blk w g t cs) (hg : w.grownBy w' (some b)) : Blk w' g t cs := h.grown hg fun e => by
  obtain ⟨es, ck, h1⟩ := hm
  unfold Blk at h
  rw [e, h1] at h
  cases h
/-- A map that 'make' made. -/
theorem mapQ_made (w : World) (R C : Nat) : MapQ (w.alloc (.map #[] 0)) w.heap.size (zerosT R C) :=
  ⟨.map [], World.ownsMap_made w _ _ _, ⟨fun i j q hq h0 => absurd (cellq_zeros hq) h0, fun _ _ _ _ _ => rfl, by rw [cntT_zeros]; rfl⟩⟩
theorem tidyM {w : World} {b n : Nat} {D : DataW Value} (h : w.ownsMap Tryz.prog 132 selfR b n D) : Maps.Tidy D := by
  obtain ⟨es, rfl, h1, _⟩ := h.entries keyK
  exact ⟨es, rfl, h1⟩
theorem resize {w : World} {b n : Nat} {D : DataW Value} (h : w.ownsMap Tryz.prog 132 selfR b n D) : w.ownsMap Tryz.prog 132 selfR b (Maps.size D) D := by
  obtain ⟨es, ck, h1, h2, h3, rfl⟩ := h
  exact ⟨es, ck, h1, h2, by simp [Maps.size, length_sorted], rfl⟩
/-- 'v, ok := m[k]'. -/
theorem MapQ.look {w : World} {b : Nat} {T : List (List Rat)} (h : MapQ w b T) {x y : Int} (hx : I64 x) (hy : I64 y) :
    (∃ (i j : Nat) (p : Elt), x = i ∧ y = j ∧ cellq T i j = some p.1 ∧ p.1 ≠ 0 ∧ IsE .u64 4294967296 w p ∧ (Instr.lookup 122 (.map (some b)) (.agg #[.int .i64 x, .int .i64 y]) true).run Tryz.prog w = .ok (.tuple #[qv p, .bool true]) w) ∨
    ((∀ (i j : Nat) (q : Rat), x = i → y = j → cellq T i j = some q → q = 0) ∧ (Instr.lookup 122 (.map (some b)) (.agg #[.int .i64 x, .int .i64 y]) true).run Tryz.prog w = .ok (.tuple #[zq, .bool false]) w) := by
  obtain ⟨D, h1, h2⟩ := h
  obtain ⟨v, ps, hrun, hv⟩ := h1.look_ok keyK Tryz.underlying122 (zeroQ w) (zd := .held zq) (zp := []) rfl (keyOf_k hx hy)
  have hv2 : DataW.held v = D.atKey (klit x y) (.held zq) := by
    unfold selfR at hv
    injection hv with hv
    injection hv
  by_cases hc : ∃ (i j : Nat) (q : Rat), x = i ∧ y = j ∧ cellq T i j = some q ∧ q ≠ 0
  · obtain ⟨i, j, q, rfl, rfl, hq, h0⟩ := hc
    obtain ⟨h3, p, h4, h5, h6⟩ := h2.hit i j q hq h0
    subst h5
    rw [h4] at hv2
    injection hv2 with hv2
    rw [h3, hv2] at hrun
    exact .inl ⟨i, j, p, rfl, rfl, hq, h0, h6, hrun⟩
  · have hm : ∀ (i j : Nat) (q : Rat), x = i → y = j → cellq T i j = some q → q = 0 := fun i j q e1 e2 hq => Classical.byContradiction fun h0 => hc ⟨i, j, q, e1, e2, hq, h0⟩
    have h3 := h2.miss x y hx hy hm
    rw [Maps.atKey_of_not_has h3] at hv2
    injection hv2 with hv2
    rw [h3, hv2] at hrun
    exact .inr ⟨hm, hrun⟩
theorem natI64 {n m : Nat} (h : n < m) (hm : m ≤ 200) : I64 (n : Int) := ⟨by omega, by omega⟩
theorem klit_ne {i j : Nat} {R C : Nat} (hR : R ≤ 200) (hC : C ≤ 200) (hi : i < R) (hj : j < C) {a b : Int} (ha : I64 a) (hb : I64 b) (h : ¬ ((i : Int) = a ∧ (j : Int) = b)) : klit a b ≠ klit i j := fun e => by
  obtain ⟨e1, e2⟩ := klit_inj ha hb (natI64 hi hR) (natI64 hj hC) e
  exact h ⟨e1.symm, e2.symm⟩
/-- 'm[k] = v', v no nought. -/
theorem MapQ.store {w : World} {b : Nat} {T : List (List Rat)} {R C i j : Nat} {p : Elt} (h : MapQ w b T) (hs : shp T R C) (hR : R ≤ 200) (hC : C ≤ 200) (hi : i < R) (hj : j < C) (h0 : p.1 ≠ 0) (hp : IsE .u64 4294967296 w p) :
    ∃ w', (Instr.mapUpdate 122 (.map (some b)) (.agg #[.int .i64 (i : Int), .int .i64 (j : Int)]) (qv p)).run Tryz.prog w = .ok () w' ∧ MapQ w' b (setq T i j p.1) ∧ w.grownBy w' (some b) := by
  have hm := h.isM
  obtain ⟨D, h1, h2⟩ := h
  have hsz : Maps.size D < maxLen := by
    rw [h2.cnt]
    have h3 := cntT_le hs
    have h4 : R * C ≤ 200 * 200 := Nat.mul_le_mul hR hC
    unfold maxLen; omega
  obtain ⟨w', hrun, h3, h4⟩ := h1.update keyK Tryz.underlying122 hsz (keyOf_k (natI64 hi hR) (natI64 hj hC)) (val := qv p) (d := .held (qv p)) (ps := []) rfl
  have hT := tidyM h1
  have hkl := keyK.key (keyOf_k (natI64 hi hR) (natI64 hj hC))
  obtain ⟨q0, hq0⟩ := cellq_ex hs hi hj
  have hhas : Maps.has D (klit i j) = decide (q0 ≠ 0) := by
    by_cases e : q0 = 0
    · rw [h2.miss i j (natI64 hi hR) (natI64 hj hC) (fun i' j' q e1 e2 hq => by
        obtain rfl : i = i' := by omega
        obtain rfl : j = j' := by omega
        rw [hq0] at hq
        injection hq with hq
        rw [← hq, e]), e]; simp
    · rw [(h2.hit i j q0 hq0 e).1]; simp [e]
  refine ⟨w', hrun, ⟨_, resize h3, fun i' j' q hq hne => ?_, fun x y hx hy hm' => ?_, ?_⟩, h4⟩
  · rw [cellq_setq hs hi hj] at hq
    by_cases e : i = i' ∧ j = j'
    · obtain ⟨rfl, rfl⟩ := e
      rw [if_pos ⟨rfl, rfl⟩] at hq
      injection hq with hq
      exact ⟨Maps.has_put_same hT.isMap hkl _, p, fun z => Maps.atKey_put_same hT.isMap hkl _ z, hq, hm.offE hp h4⟩
    · rw [if_neg e] at hq
      obtain ⟨hi', hj'⟩ := cellq_lt hs hq
      obtain ⟨k1, p', k2, k3, k4⟩ := h2.hit i' j' q hq hne
      have hk := klit_ne hR hC hi hj (natI64 hi' hR) (natI64 hj' hC) (fun e' => e ⟨by omega, by omega⟩)
      exact ⟨by rw [Maps.has_put_other hk]; exact k1, p', fun z => by rw [Maps.atKey_put_other hk]; exact k2 z, k3, hm.offE k4 h4⟩
  · have hk := klit_ne hR hC hi hj hx hy (fun e => h0 (hm' i j p.1 e.1.symm e.2.symm (by rw [cellq_setq hs hi hj, if_pos ⟨rfl, rfl⟩])))
    rw [Maps.has_put_other hk]
    refine h2.miss x y hx hy fun i' j' q e1 e2 hq => ?_
    by_cases e : i = i' ∧ j = j'
    · exact absurd (hm' i' j' p.1 e1 e2 (by rw [cellq_setq hs hi hj, if_pos e])) h0
    · exact hm' i' j' q e1 e2 (by rw [cellq_setq hs hi hj, if_neg e]; exact hq)
  · rw [Maps.size_put hT, hhas, h2.cnt]
    have h5 := cntT_setq hq0 p.1
    rw [oneq_pos h0] at h5
    by_cases e : q0 = 0
    · subst e; rw [oneq_zero] at h5; simp; omega
    · rw [oneq_pos e] at h5; simp [e]; omega
/-- 'delete(m, k)'. -/
theorem MapQ.drop {w : World} {b : Nat} {T : List (List Rat)} {R C i j : Nat} (h : MapQ w b T) (hs : shp T R C) (hR : R ≤ 200) (hC : C ≤ 200) (hi : i < R) (hj : j < C) (ty : TypeId) :
    ∃ w', (Builtin.delete_ #[122, 132] ty #[.map (some b), .agg #[.int .i64 (i : Int), .int .i64 (j : Int)]]).run Tryz.prog w = .ok (.tuple #[]) w' ∧ MapQ w' b (setq T i j 0) ∧ w.grownBy w' (some b) := by
  have hm := h.isM
  obtain ⟨D, h1, h2⟩ := h
  obtain ⟨w', hrun, h3, h4'⟩ := h1.drop keyK Tryz.underlying122 (keyOf_k (natI64 hi hR) (natI64 hj hC)) ty
  have h4 := h4'.grown
  have hT := tidyM h1
  obtain ⟨q0, hq0⟩ := cellq_ex hs hi hj
  have hhas : Maps.has D (klit i j) = decide (q0 ≠ 0) := by
    by_cases e : q0 = 0
    · rw [h2.miss i j (natI64 hi hR) (natI64 hj hC) (fun i' j' q e1 e2 hq => by
        obtain rfl : i = i' := by omega
        obtain rfl : j = j' := by omega
        rw [hq0] at hq
        injection hq with hq
        rw [← hq, e]), e]; simp
    · rw [(h2.hit i j q0 hq0 e).1]; simp [e]
  refine ⟨w', hrun, ⟨_, resize h3, fun i' j' q hq hne => ?_, fun x y hx hy hm' => ?_, ?_⟩, h4⟩
  · rw [cellq_setq hs hi hj] at hq
    by_cases e : i = i' ∧ j = j'
    · rw [if_pos e] at hq
      injection hq with hq
      exact absurd hq.symm hne
    · rw [if_neg e] at hq
      obtain ⟨hi', hj'⟩ := cellq_lt hs hq
      obtain ⟨k1, p', k2, k3, k4⟩ := h2.hit i' j' q hq hne
      have hk := klit_ne hR hC hi hj (natI64 hi' hR) (natI64 hj' hC) (fun e' => e ⟨by omega, by omega⟩)
      exact ⟨by rw [Maps.has_del_other hk]; exact k1, p', fun z => by rw [Maps.atKey_del_other hk]; exact k2 z, k3, hm.offE k4 h4⟩
  · by_cases e : (i : Int) = x ∧ (j : Int) = y
    · obtain ⟨rfl, rfl⟩ := e
      exact Maps.has_del_same
    · rw [Maps.has_del_other (klit_ne hR hC hi hj hx hy e)]
      refine h2.miss x y hx hy fun i' j' q e1 e2 hq => hm' i' j' q e1 e2 ?_
      rw [cellq_setq hs hi hj, if_neg (fun e' => e ⟨by omega, by omega⟩)]
      exact hq
  · have h6 := Maps.size_del (k := klit i j) hT
    rw [hhas, h2.cnt] at h6
    have h5 := cntT_setq hq0 0
    rw [oneq_zero] at h5
    by_cases e : q0 = 0
    · subst e; rw [oneq_zero] at h5; simp at h6; omega
    · rw [oneq_pos e] at h5; simp [e] at h6; omega
/-- 'len(m)'. -/
theorem MapQ.len {w : World} {b : Nat} {T : List (List Rat)} (h : MapQ w b T) (ty : TypeId) : (Builtin.len_ #[122] ty #[.map (some b)]).run Tryz.prog w = .ok (.int .i64 (cntT T : Int)) w := by
  obtain ⟨D, h1, h2⟩ := h
  rw [← h2.cnt]
  exact h1.len Tryz.underlying122 ty
end Go.Proofs.YtfnohdgnhdfpaaaGreat.rat
namespace Go.Proofs.YtfnohdgnhdfpaaaGreat.num
set_option linter.unusedVariables false
theorem gcd_mod (x y : Nat) : Nat.gcd y (x % y) = Nat.gcd x y := by
  rw [Nat.gcd_comm x y, Nat.gcd_rec y x, Nat.gcd_comm]
/-- The odd part. -/
def odp (x : Nat) : Nat := x / 2 ^ tz x
theorem tz_split {x : Nat} (h : 0 < x) : x = 2 ^ tz x * odp x ∧ odp x % 2 = 1 := by
  induction x using Nat.strongRecOn with
  | ind x ih =>
    by_cases h1 : x % 2 = 1
    · unfold odp; rw [tz_odd h1]; simp [h1]
    · have h2 : x % 2 = 0 := by omega
      obtain ⟨e, o⟩ := ih (x / 2) (by omega) (by omega)
      have e2 : odp x = odp (x / 2) := by
        unfold odp
        rw [tz_even (by omega) h2, Nat.pow_succ, Nat.mul_comm, ← Nat.div_div_eq_div_mul]
      refine ⟨?_, by rw [e2]; exact o⟩
      rw [e2, tz_even (by omega) h2, Nat.pow_succ, Nat.mul_right_comm, ← e]
      omega
theorem odp_pos {x : Nat} (h : 0 < x) : 0 < odp x := by have := (tz_split h).2; omega
theorem odp_le (x : Nat) : odp x ≤ x := Nat.div_le_self _ _
theorem odp_half {x : Nat} (h : 0 < x) (h2 : x % 2 = 0) : 2 * odp x ≤ x := by
  obtain ⟨e, o⟩ := tz_split h
  have ht : tz x = (tz x - 1) + 1 := by rw [tz_even (by omega) h2]; omega
  rw [ht, Nat.pow_succ] at e
  have := Nat.pow_pos (n := tz x - 1) (show 0 < 2 by omega)
  have h3 : 1 * (2 * odp x) ≤ 2 ^ (tz x - 1) * (2 * odp x) := Nat.mul_le_mul_right _ this
  rw [← Nat.mul_assoc] at h3
  rw [← Nat.mul_assoc, Nat.one_mul] at h3
  omega
theorem cop2 {o : Nat} (h : o % 2 = 1) (k : Nat) : Nat.Coprime (2 ^ k) o := by
  refine Nat.Coprime.pow_left k ?_
  show Nat.gcd 2 o = 1
  rw [Nat.gcd_rec, h]; rfl
/-- Of an odd number, twos in the other one count for nothing. -/
theorem gcd_odp {x y : Nat} (hx : 0 < x) (hy : y % 2 = 1) : Nat.gcd (odp x) y = Nat.gcd x y := by
  have e := (tz_split hx).1
  have h := Nat.Coprime.gcd_mul_left_cancel (odp x) (cop2 hy (tz x))
  rw [← e] at h
  exact h.symm
theorem gcd_two (i j p q : Nat) (hp : p % 2 = 1) (hij : i ≤ j) : Nat.gcd (2 ^ i * p) (2 ^ j * q) = 2 ^ i * Nat.gcd p q := by
  have e : 2 ^ j * q = 2 ^ i * (2 ^ (j - i) * q) := by rw [← Nat.mul_assoc, ← Nat.pow_add]; congr 2; omega
  rw [e, Nat.gcd_mul_left, Nat.gcd_comm p, Nat.Coprime.gcd_mul_left_cancel q (cop2 hp (j - i)), Nat.gcd_comm]
theorem gcd_parts {x y : Nat} (hx : 0 < x) (hy : 0 < y) : Nat.gcd x y = Nat.gcd (odp x) (odp y) * 2 ^ min (tz x) (tz y) := by
  obtain ⟨e1, o1⟩ := tz_split hx
  obtain ⟨e2, o2⟩ := tz_split hy
  rw [Nat.mul_comm]
  rcases Nat.le_total (tz x) (tz y) with h | h
  · rw [Nat.min_eq_left h]
    conv => lhs; rw [e1, e2]
    exact gcd_two _ _ _ _ o1 h
  · rw [Nat.min_eq_right h, Nat.gcd_comm x y, Nat.gcd_comm (odp x)]
    conv => lhs; rw [e1, e2]
    exact gcd_two _ _ _ _ o2 h
/-- What the loop of halving and taking off keeps. -/
def BG (g x y : Nat) : Prop := x % 2 = 1 ∧ y % 2 = 1 ∧ Nat.gcd x y = g
theorem BG.swap {g x y : Nat} (h : BG g x y) : BG g y x := ⟨h.2.1, h.1, by rw [Nat.gcd_comm]; exact h.2.2⟩
theorem BG.step {g x y : Nat} (h : BG g x y) (hlt : y < x) : BG g (odp (x - y)) y ∧ 0 < x - y ∧ odp (x - y) + y < x + y := by
  obtain ⟨h1, h2, h3⟩ := h
  have h0 : 0 < x - y := by omega
  refine ⟨⟨(tz_split h0).2, h2, ?_⟩, h0, ?_⟩
  · rw [gcd_odp h0 h2, Nat.gcd_sub_self_left (by omega), h3]
  · have := odp_half h0 (by omega)
    omega
theorem BG.done {g x : Nat} (h : BG g x x) : g = x := by rw [← h.2.2, Nat.gcd_self]
theorem BG.start {x y : Nat} (hx : 0 < x) (hy : 0 < y) : BG (Nat.gcd (odp x) (odp y)) (odp x) (odp y) := ⟨(tz_split hx).2, (tz_split hy).2, rfl⟩
/-- The greatest common divisor of many. -/
def gcds (l : List Nat) : Nat := l.foldl Nat.gcd 0
theorem gcds_snoc (l : List Nat) (x : Nat) : gcds (l ++ [x]) = Nat.gcd (gcds l) x := by simp [gcds]
theorem tz_pow_le {x : Nat} (h : 0 < x) : 2 ^ tz x ≤ x := by
  have e := (tz_split h).1
  have h2 := odp_pos h
  have h3 : 2 ^ tz x * 1 ≤ 2 ^ tz x * odp x := Nat.mul_le_mul_left _ h2
  omega
theorem odp_limbs (x : Nat) : x / 4294967296 ^ (tz x / 32) / 2 ^ (tz x % 32) = odp x := by
  have e : (4294967296 : Nat) = 2 ^ 32 := by decide
  unfold odp
  rw [Nat.div_div_eq_div_mul, e, ← Nat.pow_mul, ← Nat.pow_add]
  congr 2; omega
theorem tz_limb {x : Nat} (h : 0 < x) : tz x / 32 < (digs 4294967296 x).length := by
  have h1 := tz_pow_le h
  have h2 := digs_lt_pow (B := 4294967296) (by omega) x
  have e : (4294967296 : Nat) = 2 ^ 32 := by decide
  rw [e, ← Nat.pow_mul] at h2
  have h3 : 2 ^ tz x < 2 ^ (32 * (digs 4294967296 x).length) := by rw [← e] at h2; exact Nat.lt_of_le_of_lt h1 h2
  have h4 := (Nat.pow_lt_pow_iff_right (show 1 < 2 by omega)).1 h3
  omega
end Go.Proofs.YtfnohdgnhdfpaaaGreat.num
namespace Go.Proofs.YtfnohdgnhdfpaaaGreat.nat
open Go.RowKit Go.Proofs.YtfnohdgnhdfpaaaGreat.num Go.Proofs.YtfnohdgnhdfpaaaGreat.mem Go.Proofs.YtfnohdgnhdfpaaaGreat.limb
set_option linter.unusedVariables false
/-- The call ends with a slice that reads as the list; what was there is as it was. -/
def RetSs (k : IntKind) (l : List Nat) (w : World) (e : Ending) (w' : World) : Prop := ∃ v, e = .returned v ∧ IsS w' k v l ∧ Below w.heap.size w w'
theorem dlen0 {B x : Nat} (hB : 2 ≤ B) (h : x = 0) : (digs B x).length ≤ 0 := by rw [h, digs_zero]; simp
theorem dlenp {B x : Nat} (hB : 2 ≤ B) (h : 0 < x) : 0 < (digs B x).length := by
  rcases Nat.eq_zero_or_pos (digs B x).length with h0 | h0
  · have := (digs_len0 hB).1 h0; omega
  · exact h0
set_option maxHeartbeats 800000 in
theorem refGcd_any (v u : Value) (x y : Nat) (w : World) (h : IsS w .i64 v (digs 10000 x)) (h' : IsS w .i64 u (digs 10000 y)) (hl : (digs 10000 x).length ≤ 100000) (hl' : (digs 10000 y).length ≤ 100000) :
    Calls Tryz.prog 132 #[v, u] w (RetSs .i64 (digs 10000 (Nat.gcd x y)) w) := by
  go_enter Tryz.func132, Tryz.ntmps132
  go_wp2
  go_loopg [0, 1] y (fun gk va vb wr => ∃ (p q : Nat), q ≤ gk ∧ IsS wr .i64 va (digs 10000 p) ∧ IsS wr .i64 vb (digs 10000 q) ∧ (digs 10000 p).length ≤ 100000 ∧ (digs 10000 q).length ≤ 100000 ∧ Hid (Nat.gcd p q = Nat.gcd x y) ∧ Below w.heap.size w wr)
  case atStart => exact ⟨x, y, Nat.le_refl _, h, h', hl, hl', rfl, Below.refl _ _⟩
  case round =>
    obtain ⟨p, q, hq, hp, hqs, lp, lq, HG, hb⟩ := hrel
    obtain ⟨A2, c2, rfl, _⟩ := id hqs
    by_cases hq0 : q = 0
    · have hz := dlen0 (B := 10000) (by omega) hq0
      have HE : Hid (Nat.gcd x y = p) := by have h1 := HG.out; rw [hq0, Nat.gcd_zero_right] at h1; exact h1.symm
      clear hq0
      go_wp2
      go_ret
      exact ⟨_, rfl, by rw [HE.out]; exact hp, hb⟩
    · have hz := dlenp (B := 10000) (x := q) (by omega) (by omega)
      have hml := dec_mod p q
      have hlt : p % q < q := Nat.mod_lt _ (by omega)
      have HG2 : Hid (Nat.gcd q (p % q) = Nat.gcd x y) := by show _ = _; rw [gcd_mod]; exact HG.out
      go_wp2_with fail
      refine (refDiv_any _ _ p q _ hp hqs lp lq (by omega)).mono ?_
      rintro e w' ⟨v3, v4, rfl, k3, k4, f3, f4, b4⟩
      have hb2 := hb.trans (b4.mono hb.size)
      go_wp2
      go_roundg (p % q)
      case rel => exact ⟨q, p % q, Nat.le_refl _, hqs.below b4, k4, lq, by omega, HG2, hb2⟩
      case measure => omega
set_option maxHeartbeats 400000 in
theorem gown_any (v : Value) (x : Nat) (w : World) (h : IsS w .u64 v (digs 4294967296 x)) (hl : (digs 4294967296 x).length ≤ 90000) :
    Calls Tryz.prog 160 #[v] w (RetS .u64 (digs 4294967296 x) w) := by
  go_enter Tryz.func160, Tryz.ntmps160
  go_wp2_with fail
  refine (small_any _ x _ _ 1 0 _ h (by omega) rfl rfl (by omega) (by omega) x (by omega)).mono ?_
  rintro e w1 ⟨v1, rfl, k1, f1, b1⟩
  go_wp2
  go_ret
  exact ⟨_, rfl, k1, f1, b1⟩
/-- Noughts below a number. -/
theorem digs_up {B : Nat} (hB : 2 ≤ B) (q : Nat) {y : Nat} (hy : 0 < y) : digs B (B ^ q * y) = List.replicate q 0 ++ digs B y := by
  induction q with
  | zero => simp
  | succ q ih =>
    have hp : 0 < B ^ q * y := Nat.mul_pos (Nat.pow_pos (by omega)) hy
    have e : B ^ (q + 1) * y = B * (B ^ q * y) := by rw [Nat.pow_succ, Nat.mul_comm (B ^ q) B, Nat.mul_assoc]
    rw [e, digs_pos hB (Nat.mul_pos (by omega) hp), Nat.mul_mod_right, Nat.mul_div_cancel_left _ (by omega), ih, List.replicate_succ, List.cons_append]
set_option maxHeartbeats 800000 in
theorem godd_any (v : Value) (x : Nat) (w : World) (h : IsS w .u64 v (digs 4294967296 x)) (hl : (digs 4294967296 x).length ≤ 90000) (hx : 0 < x) (y : Nat) (hy : y = odp x) :
    Calls Tryz.prog 162 #[v] w (RetS .u64 (digs 4294967296 y) w) := by
  obtain ⟨t, ht⟩ : ∃ t, t = tz x := ⟨_, rfl⟩
  have hgl : t / 32 < (digs 4294967296 x).length := by rw [ht]; exact tz_limb hx
  have HT := Lib.hid ht
  have HY : Hid (y = x / 4294967296 ^ (t / 32) / 2 ^ (t % 32)) := by show _ = _; rw [hy, ht, odp_limbs]
  have HD : Hid ((digs 4294967296 x).drop (t / 32) = digs 4294967296 (x / 4294967296 ^ (t / 32))) := drop_div (n := t / 32) (by omega)
  have hdl := digs_len_mono (B := 4294967296) (by omega) (Nat.div_le_self x (4294967296 ^ (t / 32)))
  clear ht hy
  obtain ⟨A, c, rfl, hc, hm, hr⟩ := id h
  have hm2 := hm
  unfold maxLen at hm2
  have hs : IsS w .u64 (.slice (A.map fun x => x.add (t / 32)) ((digs 4294967296 x).length - t / 32) (c - t / 32)) (digs 4294967296 (x / 4294967296 ^ (t / 32))) := by rw [← HD.out]; exact hr.isDrop hc hm (by omega)
  have hcap : t / 32 < c := by omega
  go_enter Tryz.func162, Tryz.ntmps162
  go_wp2_with fail
  refine (zeros_any _ x t _ h (by omega) HT.out).mono ?_
  rintro e w1 ⟨rfl, rfl⟩
  go_wp2_with fail
  all_goals
    refine (shr_ok _ (x / 4294967296 ^ (t / 32)) _ (t % 32) _ (by omega) (by first | exact hs | skip) (by omega) (by omega) y HY.out).mono ?_
    rintro e w1 ⟨v1, rfl, k1, f1, b1⟩
    go_wp2
    go_ret
    exact ⟨_, rfl, k1, f1, b1⟩
set_option maxHeartbeats 800000 in
theorem gdoubled_any (v : Value) (x : Nat) (nI : Int) (n : Nat) (w : World) (hnI : nI = (n : Int)) (h : IsS w .u64 v (digs 4294967296 x)) (hl : (digs 4294967296 x).length ≤ 90000) (hx : 0 < x) (hn : n ≤ 3000000) (y : Nat) (hy : y = x * 2 ^ n) :
    Calls Tryz.prog 164 #[v, .int .i64 nI] w (RetS .u64 (digs 4294967296 y) w) := by
  subst hnI
  have hz : 0 < x * 2 ^ (n % 32) := Nat.mul_pos hx (Nat.pow_pos (by omega))
  have hzl := up_len (x := x) (u := n % 32) (by omega)
  have HE : Hid (digs 4294967296 y = List.replicate (n / 32) 0 ++ digs 4294967296 (x * 2 ^ (n % 32))) := by
    show _ = _
    rw [← digs_up (by omega) _ hz, hy, pow32, Nat.mul_left_comm, ← Nat.pow_add]
    congr 3; omega
  clear hy
  go_enter Tryz.func164, Tryz.ntmps164
  go_wp2_with fail
  refine (shl_ok _ x _ (n % 32) _ (by omega) h (by omega) (by omega) _ rfl).mono ?_
  rintro e w1 ⟨v1, rfl, k1, f1, b1⟩
  obtain ⟨A1, c1, rfl, hc1, hm1, hr1⟩ := k1
  go_wp2_with (first
    | (at_make; refine wpList_make_rd rfl _ _ rfl sl24 (n / 32) rfl rfl (by omega) (by omega) (by omega) (Nat.le_refl _) ?_; intro w2 hown2 hb2 hz2)
    | (at_builtin; refine wpList_append_rd rfl (.tmp 16) (.tmp 17) rfl sl24 rfl hown2 rfl (news := digs 4294967296 (x * 2 ^ (n % 32))) rfl (hr1.below hb2) (by simp; omega) hb2.size ?_; intro v' w3 hown3 hb3 hg3))
  go_ret
  exact ⟨_, rfl, by rw [HE.out]; exact hown3.isS, hown3.fresh.mono b1.size, (b1.trans (hb2.mono b1.size)).trans (hb3.mono b1.size)⟩
theorem limb_bits {x n : Nat} (h : (digs 4294967296 x).length ≤ n) : x < 2 ^ (32 * n) := by
  have h2 := digs_lt_pow (B := 4294967296) (by omega) x
  rw [pow32] at h2
  exact Nat.lt_of_lt_of_le h2 (Nat.pow_le_pow_right (by omega) (by omega))
theorem tz_le {x n : Nat} (hx : 0 < x) (h : (digs 4294967296 x).length ≤ n) : tz x ≤ 32 * n := by
  have h1 := Nat.lt_of_le_of_lt (tz_pow_le hx) (limb_bits h)
  have := (Nat.pow_lt_pow_iff_right (show 1 < 2 by omega)).1 h1
  omega
theorem odp_len (x : Nat) : (digs 4294967296 (odp x)).length ≤ (digs 4294967296 x).length := digs_len_mono (by omega) (odp_le x)
theorem sub_len (x y : Nat) : (digs 4294967296 (x - y)).length ≤ (digs 4294967296 x).length := digs_len_mono (by omega) (Nat.sub_le _ _)
set_option maxHeartbeats 1600000 in
theorem binary_any (v u : Value) (x y : Nat) (w : World) (h : IsS w .u64 v (digs 4294967296 x)) (h' : IsS w .u64 u (digs 4294967296 y)) (hl : (digs 4294967296 x).length ≤ 90000) (hl' : (digs 4294967296 y).length ≤ 90000) (z : Nat) (hz : z = Nat.gcd x y) :
    Calls Tryz.prog 151 #[v, u] w (RetS .u64 (digs 4294967296 z) w) := by
  have HZ := Lib.hid hz
  clear hz
  by_cases hx0 : x = 0
  · have hzl := dlen0 (B := 4294967296) (by omega) hx0
    have HE : Hid (z = y) := by show _ = _; rw [HZ.out, hx0, Nat.gcd_zero_left]
    clear hx0
    go_enter Tryz.func151, Tryz.ntmps151
    go_wp2_with fail
    refine (gown_any _ x _ h hl).mono ?_
    rintro e w1 ⟨v1, rfl, k1, f1, b1⟩
    go_wp2_with fail
    refine (gown_any _ y _ (h'.below b1) hl').mono ?_
    rintro e w2 ⟨v2, rfl, k2, f2, b2⟩
    obtain ⟨A1, c1, rfl, _⟩ := id k1
    go_wp2
    go_ret
    exact ⟨_, rfl, by rw [HE.out]; exact k2, f2.mono b1.size, b1.trans (b2.mono b1.size)⟩
  · have hxp : 0 < x := by omega
    have hxl := dlenp (B := 4294967296) (by omega) hxp
    have hxl2 : (((digs 4294967296 x).length : Int) == 0) = false := by rw [beq_eq_false_iff_ne]; omega
    clear hx0
    by_cases hy0 : y = 0
    · have hzl := dlen0 (B := 4294967296) (by omega) hy0
      have HE : Hid (z = x) := by show _ = _; rw [HZ.out, hy0, Nat.gcd_zero_right]
      clear hy0
      go_enter Tryz.func151, Tryz.ntmps151
      go_wp2_with fail
      refine (gown_any _ x _ h hl).mono ?_
      rintro e w1 ⟨v1, rfl, k1, f1, b1⟩
      go_wp2_with fail
      refine (gown_any _ y _ (h'.below b1) hl').mono ?_
      rintro e w2 ⟨v2, rfl, k2, f2, b2⟩
      obtain ⟨A1, c1, rfl, _⟩ := id k1
      obtain ⟨A2, c2, rfl, _⟩ := id k2
      go_wp2
      go_ret
      exact ⟨_, rfl, by rw [HE.out]; exact k1.below b2, f1, b1.trans (b2.mono b1.size)⟩
    · have hyp : 0 < y := by omega
      have hyl := dlenp (B := 4294967296) (by omega) hyp
      have hyl2 : (((digs 4294967296 y).length : Int) == 0) = false := by rw [beq_eq_false_iff_ne]; omega
      clear hy0
      obtain ⟨t, ht⟩ : ∃ t, t = tz x := ⟨_, rfl⟩
      obtain ⟨s, hs⟩ : ∃ s, s = tz y := ⟨_, rfl⟩
      have htl := tz_le hxp hl
      have hsl := tz_le hyp hl'
      rw [← ht] at htl
      rw [← hs] at hsl
      obtain ⟨g, hg⟩ : ∃ g, g = Nat.gcd (odp x) (odp y) := ⟨_, rfl⟩
      have HG : Hid (z = g * 2 ^ min t s) := by show _ = _; rw [HZ.out, gcd_parts hxp hyp, hg, ht, hs]
      obtain ⟨p0, hp0⟩ : ∃ p, p = odp x := ⟨_, rfl⟩
      obtain ⟨q0, hq0⟩ : ∃ q, q = odp y := ⟨_, rfl⟩
      have hpl := odp_len x
      have hql := odp_len y
      have HB : Hid (BG g p0 q0) := by show BG _ _ _; rw [hg, hp0, hq0]; exact BG.start hxp hyp
      rw [← hp0] at hpl
      rw [← hq0] at hql
      have HT := Lib.hid ht
      have HS := Lib.hid hs
      have HP := Lib.hid hp0
      have HQ := Lib.hid hq0
      rcases (show (s < t ∧ min t s = s) ∨ (¬ s < t ∧ min t s = t) from by omega) with ⟨hst, hm⟩ | ⟨hst, hm⟩
      all_goals
        rw [hm] at HG
        clear ht hs hg hp0 hq0 HZ hm
        go_enter Tryz.func151, Tryz.ntmps151
        go_wp2_with fail
        refine (gown_any _ x _ h hl).mono ?_
        rintro e w1 ⟨v1, rfl, k1, f1, b1⟩
        go_wp2_with fail
        refine (gown_any _ y _ (h'.below b1) hl').mono ?_
        rintro e w2 ⟨v2, rfl, k2, f2, b2⟩
        replace k1 := k1.below b2
        have b3 := b1.trans (b2.mono b1.size)
        obtain ⟨A1, c1, rfl, _⟩ := id k1
        obtain ⟨A2, c2, rfl, _⟩ := id k2
        clear h h' b1 b2 f1 f2
        go_wp2_with fail
        refine (zeros_any _ x t _ k1 (by omega) HT.out).mono ?_
        rintro e w3 ⟨rfl, rfl⟩
        go_wp2_with fail
        refine (zeros_any _ y s _ k2 (by omega) HS.out).mono ?_
        rintro e w3 ⟨rfl, rfl⟩
        go_wp2_with fail
        refine (godd_any _ x _ k1 hl hxp p0 HP.out).mono ?_
        rintro e w3 ⟨v3, rfl, k3, f3, b4⟩
        have b5 := b3.trans (b4.mono b3.size)
        go_wp2_with fail
        refine (godd_any _ y _ (k2.below b4) hl' hyp q0 HQ.out).mono ?_
        rintro e w4 ⟨v4, rfl, k4, f4, b6⟩
        have b7 := b5.trans (b6.mono b5.size)
        replace k3 := k3.below b6
        clear k1 k2 b3 b4 b5 b6 f3 f4
        go_wp2_with fail
        refine (cmp_any _ _ p0 q0 (ord p0 q0) _ k3 k4 rfl).mono ?_
        rintro e w5 ⟨rfl, b8⟩
        have b9 := b7.trans (b8.mono b7.size)
        replace k3 := k3.below b8
        replace k4 := k4.below b8
        clear b7 b8
        go_wp2
        go_loopg [0, 1, 6] (p0 + q0) (fun gk va vb vo wr => ∃ (p q : Nat) (o : Int), p + q ≤ gk ∧ IsS wr .u64 va (digs 4294967296 p) ∧ IsS wr .u64 vb (digs 4294967296 q) ∧ (digs 4294967296 p).length ≤ 90000 ∧ (digs 4294967296 q).length ≤ 90000 ∧ Hid (BG g p q) ∧ Hid (o = ord p q) ∧ vo = .int .i64 o ∧ Below w.heap.size w wr)
        case atStart => exact ⟨p0, q0, _, Nat.le_refl _, k3, k4, by omega, by omega, HB, rfl, rfl, b9⟩
        case round =>
          clear k3 k4 b9
          obtain ⟨p, q, o, hpq, kp, kq, lp, lq, HBG, HO, rfl, hb⟩ := hrel
          rcases Nat.lt_trichotomy p q with hlt | heq | hlt
          · obtain rfl : o = -1 := by rw [HO.out]; exact ord_lt hlt
            clear HO
            obtain ⟨hs1, hs2, hs3⟩ := HBG.out.swap.step hlt
            have HS1 := Lib.hid hs1
            have hs4 := sub_len q p
            have hs5 := odp_len (q - p)
            clear hs1
            go_wp2_with fail
            refine (sub_ok _ _ q p _ kq kp (by omega) (by omega) (q - p) rfl).mono ?_
            rintro e w5 ⟨v5, rfl, k5, f5, b5⟩
            go_wp2_with fail
            refine (godd_any _ (q - p) _ k5 (by omega) hs2 (odp (q - p)) rfl).mono ?_
            rintro e w6 ⟨v6, rfl, k6, f6, b6⟩
            have kp2 := (kp.below b5).below b6
            have b7 := (hb.trans (b5.mono hb.size))
            have b8 := b7.trans (b6.mono b7.size)
            go_wp2_with fail
            refine (cmp_any _ _ (odp (q - p)) p (ord (odp (q - p)) p) _ k6 kp2 rfl).mono ?_
            rintro e w7 ⟨rfl, b9⟩
            have b10 := b8.trans (b9.mono b8.size)
            go_wp2
            go_roundg (odp (q - p) + p)
            case rel => exact ⟨odp (q - p), p, _, Nat.le_refl _, k6.below b9, kp2.below b9, by omega, by omega, HS1, rfl, rfl, b10⟩
            case measure => omega
          · obtain rfl : o = 0 := by rw [HO.out, heq]; exact ord_eq q
            subst heq
            have HZ := (fun m (hh : Hid (z = g * 2 ^ m)) => (show Hid (z = p * 2 ^ m) from by show _ = _; rw [hh.out, HBG.out.done])) _ HG
            have hpos : 0 < p := by have := HBG.out.1; omega
            clear HO
            go_wp2_with fail
            refine (gdoubled_any _ p _ _ _ rfl kp (by omega) hpos (by omega) z HZ.out).mono ?_
            rintro e w5 ⟨v5, rfl, k5, f5, b5⟩
            go_wp2
            go_ret
            exact ⟨_, rfl, k5, f5.mono hb.size, hb.trans (b5.mono hb.size)⟩
          · obtain rfl : o = 1 := by rw [HO.out]; exact ord_gt hlt
            clear HO
            obtain ⟨hs1, hs2, hs3⟩ := HBG.out.step hlt
            have HS1 := Lib.hid hs1
            have hs4 := sub_len p q
            have hs5 := odp_len (p - q)
            clear hs1
            go_wp2_with fail
            refine (sub_ok _ _ p q _ kp kq (by omega) (by omega) (p - q) rfl).mono ?_
            rintro e w5 ⟨v5, rfl, k5, f5, b5⟩
            go_wp2_with fail
            refine (godd_any _ (p - q) _ k5 (by omega) hs2 (odp (p - q)) rfl).mono ?_
            rintro e w6 ⟨v6, rfl, k6, f6, b6⟩
            have kq2 := (kq.below b5).below b6
            have b7 := (hb.trans (b5.mono hb.size))
            have b8 := b7.trans (b6.mono b7.size)
            go_wp2_with fail
            refine (cmp_any _ _ (odp (p - q)) q (ord (odp (p - q)) q) _ k6 kq2 rfl).mono ?_
            rintro e w7 ⟨rfl, b9⟩
            have b10 := b8.trans (b9.mono b8.size)
            go_wp2
            go_roundg (odp (p - q) + q)
            case rel => exact ⟨odp (p - q), q, _, Nat.le_refl _, k6.below b9, kq2.below b9, by omega, by omega, HS1, rfl, rfl, b10⟩
            case measure => omega
theorem gcd_len {x y n : Nat} (hx : (digs 4294967296 x).length ≤ n) (hy : (digs 4294967296 y).length ≤ n) : (digs 4294967296 (Nat.gcd x y)).length ≤ n := by
  rcases Nat.eq_zero_or_pos x with h | h
  · rw [h, Nat.gcd_zero_left]; exact hy
  · exact Nat.le_trans (digs_len_mono (by omega) (Nat.gcd_le_left y h)) hx
/-- Each of them has so many limbs at most. -/
def Lens (n : Nat) (xs : List Nat) : Prop := ∀ x ∈ xs, (digs 4294967296 x).length ≤ n
theorem Lens.at {n : Nat} {xs : List Nat} (h : Lens n xs) {k x : Nat} (hk : xs[k]? = some x) : (digs 4294967296 x).length ≤ n := h x (List.mem_of_getElem? hk)
theorem Lens.snoc {n : Nat} {xs : List Nat} (h : Lens n xs) {x : Nat} (hx : (digs 4294967296 x).length ≤ n) : Lens n (xs ++ [x]) := by
  intro y hy
  rcases List.mem_append.1 hy with hy | hy
  · exact h y hy
  · rw [List.mem_singleton.1 hy]; exact hx
theorem gcds_step {xs : List Nat} {k x : Nat} (h : xs[k]? = some x) : gcds (xs.take (k + 1)) = Nat.gcd (gcds (xs.take k)) x := by rw [take_step h, gcds_snoc]
set_option maxHeartbeats 1600000 in
theorem ggcd_any (V : Value) (vs : List Value) (xs : List Nat) (w : World) (hV : IsV w V vs) (hN : Nums w vs xs) (hl : vs.length ≤ 1000000) (hS : Lens 90000 xs) :
    Calls Tryz.prog 127 #[V] w (RetS .u64 (digs 4294967296 (gcds xs)) w) := by
  obtain ⟨A, c, rfl, hc, hcells⟩ := hV
  have HC := Lib.hid hcells
  have HN := Lib.hid hN
  have HX : Hid (vs.length = xs.length) := hN.1
  have HS := Lib.hid hS
  clear hcells hN hS
  go_enter Tryz.func127, Tryz.ntmps127
  go_wp2
  go_loopw [3, 9] (fun vg vi wr => ∃ (k G : Nat), k ≤ vs.length ∧ Hid (G = gcds (xs.take k)) ∧ (digs 4294967296 G).length ≤ 90000 ∧ IsS wr .u64 vg (digs 4294967296 G) ∧ Fresh w.heap.size vg ∧ Below w.heap.size w wr ∧ vi = .int .i64 (k : Int)) (fun _ vi _ => vs.length - (intOf vi).toNat)
  case atStart => exact ⟨0, 0, by omega, rfl, by rw [digs_zero]; simp, by rw [digs_zero]; exact (own_lit0 w w.heap.size _ .u64 (Nat.le_refl _)).isS, fresh_at (Nat.le_refl _), below_alloc (Nat.le_refl _) _, rfl⟩
  case round =>
    obtain ⟨k, G, hk, HG, lG, kG, fG, hb, rfl⟩ := hrel
    by_cases hp : k < vs.length
    · obtain ⟨u, x, hu, hx, hv⟩ := HN.out.at_ hp
      obtain ⟨ad, rfl, hcell⟩ := HC.out k u hu
      have hcell2 := (hb.cell (World.block_lt_of_cell? w _ hcell)).trans hcell
      have lx := HS.out.at hx
      have hv2 := hv.below hb
      have hlz : (digs 4294967296 (Nat.gcd G x)).length ≤ 90000 := gcd_len lG lx
      obtain ⟨z, hz⟩ : ∃ z, z = Nat.gcd G x := ⟨_, rfl⟩
      rw [← hz] at hlz
      have HT : Hid (z = gcds (xs.take (k + 1))) := by show _ = _; rw [gcds_step hx, ← HG.out]; exact hz
      obtain ⟨t, ht⟩ : ∃ t, t = ord x G := ⟨_, rfl⟩
      have HO := Lib.hid ht
      have HZ := Lib.hid hz
      obtain ⟨A1, c1, rfl, _⟩ := id hv2
      obtain ⟨A2, c2, rfl, _⟩ := id kG
      clear hu hx hv hcell hz
      by_cases hlt : x < G
      · have ht0 : t < 0 := by rw [ht]; exact ord_lt0.2 hlt
        clear ht
        rcases Nat.eq_zero_or_pos x with hx0 | hx0
        · have hzl := dlen0 (B := 4294967296) (by omega) hx0
          clear hx0
          go_wp2_with fail
          refine (cmp_any _ _ x G t _ hv2 kG HO.out).mono ?_
          rintro e w1 ⟨rfl, b1⟩
          go_wp2_with fail
          refine (binary_any _ _ G x _ (kG.below b1) (hv2.below b1) lG lx z HZ.out).mono ?_
          rintro e w2 ⟨v2, rfl, k2, f2, b2⟩
          have b3 := hb.trans (b1.mono hb.size)
          have b4 := b3.trans (b2.mono b3.size)
          go_wp2
          go_roundw
          case rel => exact ⟨k + 1, z, by omega, HT, hlz, k2, f2.mono b3.size, b4, by go_num⟩
          case measure => simp [intOf]; omega
        · have hzl := dlenp (B := 4294967296) (by omega) hx0
          have hml := mod_len' (x := G) (y := x) hx0
          have HZ2 : Hid (z = Nat.gcd (G % x) x) := by show _ = _; rw [HZ.out, Nat.gcd_comm G x, Nat.gcd_rec]
          go_wp2_with fail
          refine (cmp_any _ _ x G t _ hv2 kG HO.out).mono ?_
          rintro e w1 ⟨rfl, b1⟩
          have b3 := hb.trans (b1.mono hb.size)
          replace hv2 := hv2.below b1
          replace kG := kG.below b1
          go_wp2_with fail
          refine (dmod_ok _ _ G x _ kG hv2 lG lx hx0 (G % x) rfl).mono ?_
          rintro e w2 ⟨v2, rfl, k2, f2, b2⟩
          have b4 := b3.trans (b2.mono b3.size)
          go_wp2_with fail
          refine (binary_any _ _ (G % x) x _ k2 (hv2.below b2) (by omega) lx z HZ2.out).mono ?_
          rintro e w3 ⟨v3, rfl, k3, f3, b5⟩
          have b6 := b4.trans (b5.mono b4.size)
          go_wp2
          go_roundw
          case rel => exact ⟨k + 1, z, by omega, HT, hlz, k3, f3.mono b4.size, b6, by go_num⟩
          case measure => simp [intOf]; omega
      · have ht0 : ¬ t < 0 := by rw [ht, ord_lt0]; exact hlt
        clear ht
        rcases Nat.eq_zero_or_pos G with hx0 | hx0
        · have hzl := dlen0 (B := 4294967296) (by omega) hx0
          have HZ2 : Hid (z = Nat.gcd x G) := by show _ = _; rw [HZ.out, Nat.gcd_comm]
          clear hx0
          go_wp2_with fail
          refine (cmp_any _ _ x G t _ hv2 kG HO.out).mono ?_
          rintro e w1 ⟨rfl, b1⟩
          go_wp2_with fail
          refine (binary_any _ _ x G _ (hv2.below b1) (kG.below b1) lx lG z HZ2.out).mono ?_
          rintro e w2 ⟨v2, rfl, k2, f2, b2⟩
          have b3 := hb.trans (b1.mono hb.size)
          have b4 := b3.trans (b2.mono b3.size)
          go_wp2
          go_roundw
          case rel => exact ⟨k + 1, z, by omega, HT, hlz, k2, f2.mono b3.size, b4, by go_num⟩
          case measure => simp [intOf]; omega
        · have hzl := dlenp (B := 4294967296) (by omega) hx0
          have hml := mod_len' (x := x) (y := G) hx0
          have HZ2 : Hid (z = Nat.gcd (x % G) G) := by show _ = _; rw [HZ.out, Nat.gcd_rec]
          go_wp2_with fail
          refine (cmp_any _ _ x G t _ hv2 kG HO.out).mono ?_
          rintro e w1 ⟨rfl, b1⟩
          have b3 := hb.trans (b1.mono hb.size)
          replace hv2 := hv2.below b1
          replace kG := kG.below b1
          go_wp2_with fail
          refine (dmod_ok _ _ x G _ hv2 kG lx lG hx0 (x % G) rfl).mono ?_
          rintro e w2 ⟨v2, rfl, k2, f2, b2⟩
          have b4 := b3.trans (b2.mono b3.size)
          go_wp2_with fail
          refine (binary_any _ _ (x % G) G _ k2 (kG.below b2) (by omega) lG z HZ2.out).mono ?_
          rintro e w3 ⟨v3, rfl, k3, f3, b5⟩
          have b6 := b4.trans (b5.mono b4.size)
          go_wp2
          go_roundw
          case rel => exact ⟨k + 1, z, by omega, HT, hlz, k3, f3.mono b4.size, b6, by go_num⟩
          case measure => simp [intOf]; omega
    · have HE : Hid (G = gcds xs) := by have h1 := HG.out; rw [List.take_of_length_le (by have := HX.out; omega)] at h1; exact h1
      go_wp2
      go_ret
      exact ⟨_, rfl, by rw [← HE.out]; exact kG, fG, hb⟩
end Go.Proofs.YtfnohdgnhdfpaaaGreat.nat
