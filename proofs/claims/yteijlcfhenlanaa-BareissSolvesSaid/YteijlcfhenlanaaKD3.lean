/- Package whole and the document's whole numbers: the calls. Condition: as each says.
Package whole and the document's whole numbers: the calls. Condition: as each says.
Package whole: Of, Print; the chapter's example. Condition: as each says.
What the laws of layer 7 share: an argument as a whole number, sizes, the document's Same on two that are one. Condition: as each says.
What WholeTexts' regions want beside: the obligations of min, of a string's length and cut; one answer of a text; texts of whole numbers, read. Condition: as each says.
Package whole: Sum, over rows of values of two cells; the document's Num of a great number. Condition: as each says.
What WholeMakes wants: an argument as a slice of whole numbers; a row of whole numbers that the call makes by append. Condition: as each says.
The document's own fractions: Low. Condition: as each says.
Rows of texts that the call makes by append; a row's cell in a region that draws its order; one cell written in the text's order. Condition: as each says.
Rows of fractions (structs of a struct and a slice: three cells each): a slice that reads as fractions; a row of the call's own that grows by append; an element loaded. Condition: as each says.
The document's own folds of fractions: Sum, Product. Condition: as each says.
The document's own folds of fractions: Whole, Pow. Condition: as each says.
An argument as a slice of fractions; its elements loaded. Condition: as each says.
Rows of fractions grown in a region that draws its order. Condition: as each says.
The document's Shares. Condition: as it says.
Folds of fractions: the least and the greatest one, shares are a whole, a mean lies between, sums one by one, sorting. Mathematics alone.
Tables of fractions: products, what is turned, the table that changes nothing. Mathematics alone.
Tables of fractions: what loops over rows and places keep; rows of tables multiplied, laid side by side; how long numbers grow. Mathematics alone.
Tables by row and place: mathematics: what stands at a place, how many are no noughts, one place set. No program stands here.
Tables of fractions as functions: what they make nought, steps and that steps are one; determinants by the first row, and what changes of rows do to them. Mathematics alone: no program stands here.
Bareiss' way: mathematics. Determinants of products, of tables with a place put in another's stead, and at an edge; what stands in the rows after each step, that it is whole, and what it is. No program stands here.
Bareiss' way: what stands in the rows after so many steps ('BrQ'), that it is whole, the step, the end. Mathematics: no program stands here.
Tables of fractions as lists under changes of rows; how long their numbers grow; what goes down keeps. Mathematics alone: no program stands here.
What gauss' ways keep: downward, upward, and the document's; that both come to one table. Mathematics alone: no program stands here.
The document's sum of two whole numbers lies in new memory. Condition: sizes are within bounds.
The document's Of of a whole number and of a fraction: the answer lies in new memory. Condition: sizes are within bounds.
Elements of a row of fractions whose place is told.
Rows written out in a region: two fractions, two rows of fractions; as obligations of its flow. Condition: as each says.
An argument as a slice of ints. Condition: it can be read as data.
Rows of ints that the call makes by append.
Few: two rows of fractions out of an argument. Condition: as it says.
Tables: rows of rows of fractions, as they come in, as a call makes them by append, or by make. Condition: as each says.
Rows of fractions that the call makes at their full length: one block, written element by element; calls through a function's value. Condition: as each says.
Tables that a call makes at their full length: one block of slices, written place by place; rows of the call's own that grow within such a table. Condition: as each says.
Rows of tables, as a variadic call takes them: written out in a region; read. Condition: as each says.
Rows of the call's own that grow within a table of its own: how what was there stays. Condition: as each says.
Package matrix: product, Ident, Add, Apply, Turn. Condition: as each says.
Maps of fractions by row and place: a block that holds, by arrays of two numbers, what of a table is no nought; looked up, stored, struck. Condition: as each says.
Package sparse: copied, Get. Condition: as each says.
Package sparse: Put, More. Condition: as each says.
Rows of cells (a number, and a fraction: four cells each): a row of the call's own that grows by append. Condition: as each says.
An argument as a slice of slices of fractions. Condition: it can be read as data.
Few: two rows of fractions of the call's own out of an argument; tables of such rows. Condition: as each says.
Few of a table: two tables of the call's own out of an argument. Condition: as it says.
Even: two tables of the call's own whose rows grow and are cut in place. Condition: as each says.
Package gauss: tables that a call changes row by row; first, own, square. Condition: as each says.
Package gauss: clearPlace. Condition: as each says.
Rows of one-cell elements that a call makes by append, all of whose cells, also those behind the last element, are of one sort; what of fractions stays when such a row is written. Condition: as each says.
Package gauss: down. Condition: as each says.
Rows and tables of whole numbers (structs of a sign and a slice: two cells each): slices that read as these; rows that a call makes at their full length, written place by place. Condition: as each says.
Package bareiss: even, square, first. Condition: as each says.
Package bareiss: step. Condition: as it says.
Bareiss' way: what one step makes of a table; rows changed about; what is kept where a variable is set, or a row cut. Condition: as each says.
Rows of a table each in a block of its own ('Apt'): what keeps it. Condition: as each says.
Package bareiss: way. Condition: as it says.
Package bareiss: signed, Minor, Det. Condition: as each says. -/
import Derived.Test.YteijlcfhenlanaaKD2
import Derived.Lib.SmallJoins
import Derived.ProofKit
import Derived.OpenShut
import Derived.Deep.SlicePairs
import Derived.Deep.Slices
import Derived.Maps.RangeWalk
import Derived.Maps.OwnSet
import Derived.WideKeyPair
import Derived.Deep.CutRange
import Derived.BigQuiet
namespace Go.Proofs.Yteijlcfhenlanaa.whl
open Go.RowKit Go.Proofs.Yteijlcfhenlanaa.num Go.Proofs.Yteijlcfhenlanaa.mem Go.Proofs.Yteijlcfhenlanaa.nat Go.Proofs.Yteijlcfhenlanaa.txt Go.Proofs.Yteijlcfhenlanaa.str Go.Proofs.Yteijlcfhenlanaa.flow
set_option linter.unusedVariables false
theorem cmp_mul {x y : Int} (h : ordz (ordz x 0) (ordz y 0) = 0) : IntKind.i64.wrap (ordz x 0 * ord x.natAbs y.natAbs) = ordz x y := by
  rcases Int.lt_trichotomy x 0 with hx | hx | hx <;> rcases Int.lt_trichotomy y 0 with hy | hy | hy
  all_goals
    first
    | (exfalso; revert h; unfold ordz; (repeat' split) <;> omega)
    | (rcases Nat.lt_trichotomy x.natAbs y.natAbs with h1 | h1 | h1
       · rw [ord_lt h1]; unfold ordz; (repeat' split) <;> first | omega | (rw [IntKind.wrap_i64]; omega)
       · rw [h1, ord_eq]; unfold ordz; (repeat' split) <;> first | omega | (rw [IntKind.wrap_i64]; omega)
       · rw [ord_gt h1]; unfold ordz; (repeat' split) <;> first | omega | (rw [IntKind.wrap_i64]; omega))
theorem cmp_sgn {x y : Int} (h : ordz (ordz x 0) (ordz y 0) ≠ 0) : ordz (ordz x 0) (ordz y 0) = ordz x y := by
 revert h
 unfold ordz
 (repeat' split) <;> omega
set_option maxHeartbeats 400000 in
theorem isNaN_any (a : Int) (w : World) : Calls Try.prog 59 #[.int .i64 a] w fun e w' => e = .returned (.bool false) ∧ w = w' := by
 have h1 : (a != a) = false := by simp
 go_enter Try.func59, Try.ntmps59
 go_wp2
 go_ret
 exact ⟨by first | rfl | simp, rfl⟩
set_option maxHeartbeats 400000 in
theorem compare_any (a b t : Int) (w : World) (ht : t = ordz a b) : Calls Try.prog 38 #[.int .i64 a, .int .i64 b] w (RetV (.int .i64 t) w) := by
 rcases Int.lt_trichotomy a b with h | h | h
 ·have h1 : t = -1 := by rw [ht]; exact ordz_lt h
  subst h1
  clear ht
  go_enter Try.func38, Try.ntmps38
  go_wp2_with fail
  refine (isNaN_any _ _).mono ?_
  rintro e w' ⟨rfl, rfl⟩
  go_wp2_with fail
  refine (isNaN_any _ _).mono ?_
  rintro e w' ⟨rfl, rfl⟩
  go_wp2
  go_ret
  exact ⟨rfl, Below.refl _ _⟩
 ·have h1 : t = 0 := by rw [ht]; exact ordz_eq h
  subst h1; subst h
  clear ht
  have h2 : ¬ a < a := by omega
  go_enter Try.func38, Try.ntmps38
  go_wp2_with fail
  refine (isNaN_any _ _).mono ?_
  rintro e w' ⟨rfl, rfl⟩
  go_wp2_with fail
  refine (isNaN_any _ _).mono ?_
  rintro e w' ⟨rfl, rfl⟩
  go_wp2
  go_ret
  exact ⟨rfl, Below.refl _ _⟩
 ·have h1 : t = 1 := by rw [ht]; exact ordz_gt h
  subst h1
  clear ht
  have h2 : ¬ a < b := by omega
  go_enter Try.func38, Try.ntmps38
  go_wp2_with fail
  refine (isNaN_any _ _).mono ?_
  rintro e w' ⟨rfl, rfl⟩
  go_wp2_with fail
  refine (isNaN_any _ _).mono ?_
  rintro e w' ⟨rfl, rfl⟩
  go_wp2
  go_ret
  exact ⟨rfl, Below.refl _ _⟩
set_option maxHeartbeats 1600000 in
set_option maxRecDepth 100000 in
theorem zcmp_any (a0 : Value) (x : Int) (a1 : Value) (y : Int) (t : Int) (w : World) (h0 : IsZ w a0 x) (h1 : IsZ w a1 y) (ht : t = ordz x y) :
  Calls Try.prog 16 #[a0, a1] w (RetV (.int .i64 t) w) := by
 obtain ⟨u0, rfl, s0⟩ := h0
 obtain ⟨A0, c0, rfl, _⟩ := id s0
 obtain ⟨u1, rfl, s1⟩ := h1
 obtain ⟨A1, c1, rfl, _⟩ := id s1
 by_cases hT : ordz (ordz x 0) (ordz y 0) = 0
 ·have HT : Hid (0 = ordz (ordz x 0) (ordz y 0)) := hT.symm
  have HM : Hid (IntKind.i64.wrap (ordz x 0 * ord x.natAbs y.natAbs) = t) := by show _ = _; rw [ht]; exact cmp_mul hT
  clear hT ht
  go_enter Try.func16, Try.ntmps16
  go_upto_region 1 with (fail)
  obtain ⟨wx, hwx, bb, B0, B1, hsz⟩ := vars2 w 29 29 #[.bool (ngB x), .slice A0 (digs 4294967296 (x).natAbs).length c0] #[.bool (ngB y), .slice A1 (digs 4294967296 (y).natAbs).length c1]
  rw [hwx]
  clear hwx
  have k0s := s0.below bb
  have k0 : IsZ wx (.agg #[.bool (ngB x), .slice A0 (digs 4294967296 (x).natAbs).length c0]) (x) := isZ_mk k0s rfl rfl
  have k1s := s1.below bb
  have k1 : IsZ wx (.agg #[.bool (ngB y), .slice A1 (digs 4294967296 (y).natAbs).length c1]) (y) := isZ_mk k1s rfl rfl
  have hszb := bb.size
  refine flowp 3 [Pd.eq (.agg #[.bool (ngB x), .slice A0 (digs 4294967296 (x).natAbs).length c0]), Pd.eq (.int .i64 (ordz x 0)), Pd.eq (.int .i64 (ordz x 0))] (by kernel_rfl) ?ob32 ?done32
  case ob32 =>
   refine And.intro (ob_load rfl (wt_none rfl) (ev_far rfl rfl) (fun w2 hb => run_loadAll Try.underlying29 rfl (by kernel_rfl) (B0.below hb)) (fun _ _ => rfl)) ?_
   refine And.intro (ob_call1 rfl Try.func37 (by kernel_rfl) (wt_none rfl) (ev_dep (j := 0) (by kernel_rfl) rfl rfl) (fun w2 u0 hb h0 => by obtain rfl := h0; exact (sign_any _ _ _ _ (k0.below hb) rfl).mono fun e w3 h => RetV.pd h)) ?_
   refine And.intro (ob_assign rfl (wt_none rfl) (ev_dep (j := 1) (by kernel_rfl) rfl rfl) (fun _ _ h => h)) ?_
   trivial
  case done32 =>
   refine fun w1 hb1 v0 h0 v1 h1 v2 h2 b hbf => ?_
   obtain rfl := h0; obtain rfl := h1; obtain rfl := h2
   simp only [Act.put, List.setIfInBounds_toArray, List.set_cons_zero, List.set_cons_succ] at hbf
   subst hbf
   replace B0 := B0.below hb1
   replace B1 := B1.below hb1
   replace k0s := k0s.below hb1
   replace k1s := k1s.below hb1
   replace k0 := k0.below hb1
   replace k1 := k1.below hb1
   replace bb := bb.trans (hb1.mono bb.size)
   have hszb := bb.size
   obtain ⟨x00, x01, y00, y01⟩ := Blk.two B0
   obtain ⟨x10, x11, y10, y11⟩ := Blk.two B1
   refine ops_done ?_
   go_upto_region 2 with (fail)
   refine flowp 5 [Pd.eq (.int .i64 (ordz x 0)), Pd.eq (.agg #[.bool (ngB y), .slice A1 (digs 4294967296 (y).natAbs).length c1]), Pd.eq (.int .i64 (ordz y 0)), Pd.eq (.int .i64 0), Pd.eq (.int .i64 0)] (by kernel_rfl) ?ob33 ?done33
   case ob33 =>
    refine And.intro (ob_move rfl (wt_none rfl) (ev_far rfl rfl) (fun _ _ h => h)) ?_
    refine And.intro (ob_load rfl (wt_none rfl) (ev_far rfl rfl) (fun w2 hb => run_loadAll Try.underlying29 rfl (by kernel_rfl) (B1.below hb)) (fun _ _ => rfl)) ?_
    refine And.intro (ob_call1 rfl Try.func37 (by kernel_rfl) (wt_none rfl) (ev_dep (j := 1) (by kernel_rfl) rfl rfl) (fun w2 u0 hb h0 => by obtain rfl := h0; exact (sign_any _ _ _ _ (k1.below hb) rfl).mono fun e w3 h => RetV.pd h)) ?_
    refine And.intro (ob_call2 rfl Try.func38 (by kernel_rfl) (wt_none rfl) (ev_dep (j := 0) (by kernel_rfl) rfl rfl) (ev_dep (j := 2) (by kernel_rfl) rfl rfl) (fun w2 u0 u1 hb h0 h1 => by obtain rfl := h0; obtain rfl := h1; exact (compare_any _ _ _ _ HT.out).mono fun e w3 h => RetV.pd h)) ?_
    refine And.intro (ob_assign rfl (wt_none rfl) (ev_dep (j := 3) (by kernel_rfl) rfl rfl) (fun _ _ h => h)) ?_
    trivial
   case done33 =>
    refine fun w2 hb2 v0 h0 v1 h1 v2 h2 v3 h3 v4 h4 b hbf => ?_
    obtain rfl := h0; obtain rfl := h1; obtain rfl := h2; obtain rfl := h3; obtain rfl := h4
    simp only [Act.put, List.setIfInBounds_toArray, List.set_cons_zero, List.set_cons_succ] at hbf
    subst hbf
    replace B0 := B0.below hb2
    replace B1 := B1.below hb2
    replace k0s := k0s.below hb2
    replace k1s := k1s.below hb2
    replace k0 := k0.below hb2
    replace k1 := k1.below hb2
    replace bb := bb.trans (hb2.mono bb.size)
    have hszb := bb.size
    obtain ⟨x00, x01, y00, y01⟩ := Blk.two B0
    obtain ⟨x10, x11, y10, y11⟩ := Blk.two B1
    refine ops_done ?_
    go_upto_region 5 with (fail)
    refine flowp 8 [Pd.eq (.int .i64 (ordz x 0)), Pd.eq (.pointer (some ⟨w.heap.size, 1, none⟩)), Pd.eq (.slice A0 (digs 4294967296 (x).natAbs).length c0), Pd.eq (.pointer (some ⟨w.heap.size + 1, 1, none⟩)), Pd.eq (.slice A1 (digs 4294967296 (y).natAbs).length c1), Pd.eq (.int .i64 (ord x.natAbs y.natAbs)), Pd.eq (.int .i64 t), Pd.eq (.int .i64 t)] (by kernel_rfl) ?ob34 ?done34
    case ob34 =>
     refine And.intro (ob_move rfl (wt_none rfl) (ev_far rfl rfl) (fun _ _ h => h)) ?_
     refine And.intro (ob_fieldAddr rfl (wt_none rfl) (ev_far rfl rfl) (fun _ => by kernel_rfl) (fun _ => rfl)) ?_
     refine And.intro (ob_load rfl (wt_none rfl) (ev_dep (j := 1) (by kernel_rfl) rfl rfl) (fun w2 hb => run_load1 Try.underlying27 rfl ((B0.below hb).cell 1)) (fun _ _ => rfl)) ?_
     refine And.intro (ob_fieldAddr rfl (wt_none rfl) (ev_far rfl rfl) (fun _ => by kernel_rfl) (fun _ => rfl)) ?_
     refine And.intro (ob_load rfl (wt_none rfl) (ev_dep (j := 3) (by kernel_rfl) rfl rfl) (fun w2 hb => run_load1 Try.underlying27 rfl ((B1.below hb).cell 1)) (fun _ _ => rfl)) ?_
     refine And.intro (ob_call2 rfl Try.func39 (by kernel_rfl) (wt_none rfl) (ev_dep (j := 2) (by kernel_rfl) rfl rfl) (ev_dep (j := 4) (by kernel_rfl) rfl rfl) (fun w2 u0 u1 hb h0 h1 => by obtain rfl := h0; obtain rfl := h1; exact (cmp_any _ _ _ _ _ _ (k0s.below hb) (k1s.below hb) rfl).mono fun e w3 h => RetV.pd h)) ?_
     refine And.intro (ob_bin rfl (wt_none rfl) (ev_dep (j := 0) (by kernel_rfl) rfl rfl) (ev_dep (j := 5) (by kernel_rfl) rfl rfl) (fun _ _ _ hx hy => ⟨_, by rw [hx, hy]; exact bin_mul_int _ _ _ _ _, congrArg (Value.int .i64) HM.out⟩)) ?_
     refine And.intro (ob_assign rfl (wt_none rfl) (ev_dep (j := 6) (by kernel_rfl) rfl rfl) (fun _ _ h => h)) ?_
     trivial
    case done34 =>
     refine fun w3 hb3 v0 h0 v1 h1 v2 h2 v3 h3 v4 h4 v5 h5 v6 h6 v7 h7 b hbf => ?_
     obtain rfl := h0; obtain rfl := h1; obtain rfl := h2; obtain rfl := h3; obtain rfl := h4; obtain rfl := h5; obtain rfl := h6; obtain rfl := h7
     simp only [Act.put, List.setIfInBounds_toArray, List.set_cons_zero, List.set_cons_succ] at hbf
     subst hbf
     refine ops_done ?_
     go_wp2
     go_ret
     exact ⟨rfl, bb.trans (hb3.mono bb.size)⟩
 ·have HR : Hid (t = ordz (ordz x 0) (ordz y 0)) := by show _ = _; rw [ht]; exact (cmp_sgn hT).symm
  obtain ⟨T, hT2⟩ : ∃ T, T = ordz (ordz x 0) (ordz y 0) := ⟨_, rfl⟩
  rw [← hT2] at hT HR
  have hTn : (T != 0) = true := by simpa using hT
  have HT := Lib.hid hT2
  clear hT2
  clear hT ht
  go_enter Try.func16, Try.ntmps16
  go_upto_region 1 with (fail)
  obtain ⟨wx, hwx, bb, B0, B1, hsz⟩ := vars2 w 29 29 #[.bool (ngB x), .slice A0 (digs 4294967296 (x).natAbs).length c0] #[.bool (ngB y), .slice A1 (digs 4294967296 (y).natAbs).length c1]
  rw [hwx]
  clear hwx
  have k0s := s0.below bb
  have k0 : IsZ wx (.agg #[.bool (ngB x), .slice A0 (digs 4294967296 (x).natAbs).length c0]) (x) := isZ_mk k0s rfl rfl
  have k1s := s1.below bb
  have k1 : IsZ wx (.agg #[.bool (ngB y), .slice A1 (digs 4294967296 (y).natAbs).length c1]) (y) := isZ_mk k1s rfl rfl
  have hszb := bb.size
  refine flowp 3 [Pd.eq (.agg #[.bool (ngB x), .slice A0 (digs 4294967296 (x).natAbs).length c0]), Pd.eq (.int .i64 (ordz x 0)), Pd.eq (.int .i64 (ordz x 0))] (by kernel_rfl) ?ob35 ?done35
  case ob35 =>
   refine And.intro (ob_load rfl (wt_none rfl) (ev_far rfl rfl) (fun w2 hb => run_loadAll Try.underlying29 rfl (by kernel_rfl) (B0.below hb)) (fun _ _ => rfl)) ?_
   refine And.intro (ob_call1 rfl Try.func37 (by kernel_rfl) (wt_none rfl) (ev_dep (j := 0) (by kernel_rfl) rfl rfl) (fun w2 u0 hb h0 => by obtain rfl := h0; exact (sign_any _ _ _ _ (k0.below hb) rfl).mono fun e w3 h => RetV.pd h)) ?_
   refine And.intro (ob_assign rfl (wt_none rfl) (ev_dep (j := 1) (by kernel_rfl) rfl rfl) (fun _ _ h => h)) ?_
   trivial
  case done35 =>
   refine fun w1 hb1 v0 h0 v1 h1 v2 h2 b hbf => ?_
   obtain rfl := h0; obtain rfl := h1; obtain rfl := h2
   simp only [Act.put, List.setIfInBounds_toArray, List.set_cons_zero, List.set_cons_succ] at hbf
   subst hbf
   replace B0 := B0.below hb1
   replace B1 := B1.below hb1
   replace k0s := k0s.below hb1
   replace k1s := k1s.below hb1
   replace k0 := k0.below hb1
   replace k1 := k1.below hb1
   replace bb := bb.trans (hb1.mono bb.size)
   have hszb := bb.size
   obtain ⟨x00, x01, y00, y01⟩ := Blk.two B0
   obtain ⟨x10, x11, y10, y11⟩ := Blk.two B1
   refine ops_done ?_
   go_upto_region 2 with (fail)
   refine flowp 5 [Pd.eq (.int .i64 (ordz x 0)), Pd.eq (.agg #[.bool (ngB y), .slice A1 (digs 4294967296 (y).natAbs).length c1]), Pd.eq (.int .i64 (ordz y 0)), Pd.eq (.int .i64 T), Pd.eq (.int .i64 T)] (by kernel_rfl) ?ob36 ?done36
   case ob36 =>
    refine And.intro (ob_move rfl (wt_none rfl) (ev_far rfl rfl) (fun _ _ h => h)) ?_
    refine And.intro (ob_load rfl (wt_none rfl) (ev_far rfl rfl) (fun w2 hb => run_loadAll Try.underlying29 rfl (by kernel_rfl) (B1.below hb)) (fun _ _ => rfl)) ?_
    refine And.intro (ob_call1 rfl Try.func37 (by kernel_rfl) (wt_none rfl) (ev_dep (j := 1) (by kernel_rfl) rfl rfl) (fun w2 u0 hb h0 => by obtain rfl := h0; exact (sign_any _ _ _ _ (k1.below hb) rfl).mono fun e w3 h => RetV.pd h)) ?_
    refine And.intro (ob_call2 rfl Try.func38 (by kernel_rfl) (wt_none rfl) (ev_dep (j := 0) (by kernel_rfl) rfl rfl) (ev_dep (j := 2) (by kernel_rfl) rfl rfl) (fun w2 u0 u1 hb h0 h1 => by obtain rfl := h0; obtain rfl := h1; exact (compare_any _ _ _ _ HT.out).mono fun e w3 h => RetV.pd h)) ?_
    refine And.intro (ob_assign rfl (wt_none rfl) (ev_dep (j := 3) (by kernel_rfl) rfl rfl) (fun _ _ h => h)) ?_
    trivial
   case done36 =>
    refine fun w2 hb2 v0 h0 v1 h1 v2 h2 v3 h3 v4 h4 b hbf => ?_
    obtain rfl := h0; obtain rfl := h1; obtain rfl := h2; obtain rfl := h3; obtain rfl := h4
    simp only [Act.put, List.setIfInBounds_toArray, List.set_cons_zero, List.set_cons_succ] at hbf
    subst hbf
    replace B0 := B0.below hb2
    replace B1 := B1.below hb2
    replace k0s := k0s.below hb2
    replace k1s := k1s.below hb2
    replace k0 := k0.below hb2
    replace k1 := k1.below hb2
    replace bb := bb.trans (hb2.mono bb.size)
    have hszb := bb.size
    obtain ⟨x00, x01, y00, y01⟩ := Blk.two B0
    obtain ⟨x10, x11, y10, y11⟩ := Blk.two B1
    refine ops_done ?_
    go_wp2
    go_ret
    rw [HR.out]
    exact ⟨rfl, bb⟩
set_option maxHeartbeats 1600000 in
set_option maxRecDepth 100000 in
theorem zsame_one (a0 a1 : Value) (x : Int) (w : World) (h0 : IsZ w a0 x) (h1 : IsZ w a1 x) :
  Calls Try.prog 12 #[a0, a1] w (RetV (.bool true) w) := by
 obtain ⟨u0, rfl, s0⟩ := h0
 obtain ⟨A0, c0, rfl, _⟩ := id s0
 obtain ⟨u1, rfl, s1⟩ := h1
 obtain ⟨A1, c1, rfl, _⟩ := id s1
 go_enter Try.func12, Try.ntmps12
 go_upto_region 1 with (fail)
 obtain ⟨wx, hwx, bb, B0, B1, hsz⟩ := vars2 w 29 29 #[.bool (ngB x), .slice A0 (digs 4294967296 (x).natAbs).length c0] #[.bool (ngB x), .slice A1 (digs 4294967296 (x).natAbs).length c1]
 rw [hwx]
 clear hwx
 have k0s := s0.below bb
 have k0 : IsZ wx (.agg #[.bool (ngB x), .slice A0 (digs 4294967296 (x).natAbs).length c0]) (x) := isZ_mk k0s rfl rfl
 have k1s := s1.below bb
 have k1 : IsZ wx (.agg #[.bool (ngB x), .slice A1 (digs 4294967296 (x).natAbs).length c1]) (x) := isZ_mk k1s rfl rfl
 have hszb := bb.size
 refine flowp 13 [Pd.eq (.pointer (some ⟨w.heap.size, 0, none⟩)), Pd.eq (.bool (ngB x)), Pd.eq (.pointer (some ⟨w.heap.size + 1, 0, none⟩)), Pd.eq (.bool (ngB x)), Pd.eq (.bool true), Pd.eq (.bool true), Pd.eq (.pointer (some ⟨w.heap.size, 1, none⟩)), Pd.eq (.slice A0 (digs 4294967296 (x).natAbs).length c0), Pd.eq (.pointer (some ⟨w.heap.size + 1, 1, none⟩)), Pd.eq (.slice A1 (digs 4294967296 (x).natAbs).length c1), Pd.eq (.bool true), Pd.eq (.bool true), Pd.eq (.bool true)] (by kernel_rfl) ?ob38 ?done38
 case ob38 =>
  refine And.intro (ob_fieldAddr rfl (wt_none rfl) (ev_far rfl rfl) (fun _ => by kernel_rfl) (fun _ => rfl)) ?_
  refine And.intro (ob_load rfl (wt_none rfl) (ev_dep (j := 0) (by kernel_rfl) rfl rfl) (fun w2 hb => run_load1 Try.underlying4 rfl ((B0.below hb).cell 0)) (fun _ _ => rfl)) ?_
  refine And.intro (ob_fieldAddr rfl (wt_none rfl) (ev_far rfl rfl) (fun _ => by kernel_rfl) (fun _ => rfl)) ?_
  refine And.intro (ob_load rfl (wt_none rfl) (ev_dep (j := 2) (by kernel_rfl) rfl rfl) (fun w2 hb => run_load1 Try.underlying4 rfl ((B1.below hb).cell 0)) (fun _ _ => rfl)) ?_
  refine And.intro (ob_bin rfl (wt_none rfl) (ev_dep (j := 1) (by kernel_rfl) rfl rfl) (ev_dep (j := 3) (by kernel_rfl) rfl rfl) (fun _ _ _ hx hy => ⟨.bool ((ngB x) == (ngB x)), by rw [hx, hy]; exact bin_eql_bool _ _ _ _ Try.underlying4 _, congrArg Value.bool (beq_self_eq_true _)⟩)) ?_
  refine And.intro (ob_move rfl (wt_none rfl) (ev_dep (j := 4) (by kernel_rfl) rfl rfl) (fun _ _ h => h)) ?_
  refine And.intro (ob_fieldAddr rfl (wt_dep (c := true) (b := true) (g := 5) rfl (by kernel_rfl) rfl rfl rfl (by exact fun _ _ h => h)) (ev_far rfl rfl) (fun _ => by kernel_rfl) (fun _ => rfl)) ?_
  refine And.intro (ob_load rfl (wt_dep (c := true) (b := true) (g := 5) rfl (by kernel_rfl) rfl rfl rfl (by exact fun _ _ h => h)) (ev_dep (j := 6) (by kernel_rfl) rfl rfl) (fun w2 hb => run_load1 Try.underlying27 rfl ((B0.below hb).cell 1)) (fun _ _ => rfl)) ?_
  refine And.intro (ob_fieldAddr rfl (wt_dep (c := true) (b := true) (g := 5) rfl (by kernel_rfl) rfl rfl rfl (by exact fun _ _ h => h)) (ev_far rfl rfl) (fun _ => by kernel_rfl) (fun _ => rfl)) ?_
  refine And.intro (ob_load rfl (wt_dep (c := true) (b := true) (g := 5) rfl (by kernel_rfl) rfl rfl rfl (by exact fun _ _ h => h)) (ev_dep (j := 8) (by kernel_rfl) rfl rfl) (fun w2 hb => run_load1 Try.underlying27 rfl ((B1.below hb).cell 1)) (fun _ _ => rfl)) ?_
  refine And.intro (ob_call2 rfl Try.func29 (by kernel_rfl) (wt_dep (c := true) (b := true) (g := 5) rfl (by kernel_rfl) rfl rfl rfl (by exact fun _ _ h => h)) (ev_dep (j := 7) (by kernel_rfl) rfl rfl) (ev_dep (j := 9) (by kernel_rfl) rfl rfl) (fun w2 u0 u1 hb h0 h1 => by obtain rfl := h0; obtain rfl := h1; exact (same_one _ _ _ _ (k0s.below hb) (k1s.below hb)).mono fun e w3 h => RetV.pd h)) ?_
  refine And.intro (ob_pick (b := true) rfl (wt_none rfl) (ev_dep (j := 5) (by kernel_rfl) rfl rfl) (ev_dep (j := 10) (by kernel_rfl) rfl rfl) (fun _ _ h => h)) ?_
  refine And.intro (ob_assign rfl (wt_none rfl) (ev_dep (j := 11) (by kernel_rfl) rfl rfl) (fun _ _ h => h)) ?_
  trivial
 case done38 =>
  refine fun w1 hb1 v0 h0 v1 h1 v2 h2 v3 h3 v4 h4 v5 h5 v6 h6 v7 h7 v8 h8 v9 h9 v10 h10 v11 h11 v12 h12 b hbf => ?_
  obtain rfl := h0; obtain rfl := h1; obtain rfl := h2; obtain rfl := h3; obtain rfl := h4; obtain rfl := h5; obtain rfl := h6; obtain rfl := h7; obtain rfl := h8; obtain rfl := h9; obtain rfl := h10; obtain rfl := h11; obtain rfl := h12
  simp only [Act.put, List.setIfInBounds_toArray, List.set_cons_zero, List.set_cons_succ] at hbf
  subst hbf
  refine ops_done ?_
  go_wp2
  go_ret
  exact ⟨rfl, bb.trans (hb1.mono bb.size)⟩
/-- The whole number that Clean makes of any. -/
def cleanZ (b : Bool) (l : List Nat) (most : Nat) : Int := sg b (cleaned l most)
theorem cleanZ_len (b : Bool) (l : List Nat) (most : Nat) : lenZ (cleanZ b l most) ≤ most := by unfold lenZ cleanZ; rw [sg_abs]; exact cleaned_len l most
set_option maxHeartbeats 800000 in
theorem zclean_any (b : Bool) (v : Value) (l : List Nat) (mI : Int) (most : Nat) (w : World) (hmI : mI = (most : Int)) (h : IsS w .u64 v l) (hu : Lt 18446744073709551616 l) (hmost : most ≤ 1000000) :
  Calls Try.prog 24 #[.agg #[.bool b, v], .int .i64 mI] w (RetZ (cleanZ b l most) w) := by
 obtain ⟨A, c, rfl, _⟩ := id h
 have HM := Lib.hid hmI
 clear hmI
 have hsh : Hid (IsS w .u64 (.slice A l.length c) l) := h
 go_enter Try.func24, Try.ntmps24
 go_upto_region 1 with (fail)
 obtain ⟨wx, hwx, bb, B0, B1, hsz⟩ := vars2 w 29 29 #[.bool b, .slice A l.length c] #[.bool false, .slice none 0 0]
 rw [hwx]
 clear hwx
 have k0s := h.below bb
 obtain ⟨x00, x01, _, _⟩ := Blk.two B0
 go_wp2_with fail
 refine (clean_any _ l _ most _ HM.out k0s hu hmost).mono ?_
 rintro e w1 ⟨v1, rfl, k1, f1, b1⟩
 obtain ⟨A1, c1, rfl, _⟩ := id k1
 have B0' := B0.below b1
 have B1' := B1.below b1
 have bb1 := bb.trans (b1.mono bb.size)
 have hs := b1.size
 obtain ⟨x10, x11, z10, z11⟩ := Blk.two B0'
 obtain ⟨y10, y11, q10, q11⟩ := Blk.two B1'
 clear x00 x01 B0 B1
 obtain ⟨y, hy⟩ : ∃ y, y = cleaned l most := ⟨_, rfl⟩
 have HY := Lib.hid hy.symm
 rw [← hy] at k1 f1 ⊢
 clear hy
 by_cases hy0 : 0 < y
 ·have hn : 0 < (digs 4294967296 y).length := len_pos hy0
  have HE : Hid (ngB (sg b y) = b) := ngB_sg_pos hy0
  have HAb : Hid ((sg b y).natAbs = y) := sg_abs b y
  have HC : Hid (cleanZ b l most = sg b y) := by show _ = _; unfold cleanZ; rw [HY.out]
  cases b
  all_goals
   go_wp2
   refine bodyPost_ret (by simp [results, Try.results24, go_sem, y10, y11]; rfl) rfl ?_
   rw [HC.out]
   exact endZ bb1 (by omega) (show w.heap.size + 1 < wx.heap.size from hsz) (by rw [HAb.out]; exact k1) f1 HE.out.symm
 ·obtain rfl : y = 0 := by omega
  have HC : Hid (cleanZ b l most = sg b 0) := by show _ = _; unfold cleanZ; rw [HY.out]
  have HE : Hid (ngB (sg b 0) = false) := ngB_sg_zero b
  have HAb : Hid ((sg b 0).natAbs = 0) := sg_abs b 0
  have HD : Hid (digs 4294967296 0 = []) := digs_zero _
  rw [HD.out] at k1 f1 ⊢
  cases b
  all_goals
   go_wp2
   refine bodyPost_ret (by simp [results, Try.results24, go_sem, y10, y11]; rfl) rfl ?_
   rw [HC.out]
   exact endZ bb1 (by omega) (show w.heap.size + 1 < wx.heap.size from hsz) (by rw [HAb.out, HD.out]; exact k1) f1 HE.out.symm
theorem exact_q {x y q : Int} (hy : y ≠ 0) (h : x = q * y) : x.natAbs % y.natAbs = 0 ∧ x.natAbs / y.natAbs = q.natAbs ∧ sg (!(ngB x == ngB y)) q.natAbs = q := by
 have e : x.natAbs = q.natAbs * y.natAbs := by rw [h, Int.natAbs_mul]
 have hp : 0 < y.natAbs := by omega
 refine ⟨by rw [e]; exact Nat.mul_mod_left _ _, by rw [e]; exact Nat.mul_div_cancel _ hp, ?_⟩
 by_cases hq : q = 0
 ·subst hq
  cases (!(ngB x == ngB y)) <;> rfl
 ·have hx : sg (!(ngB q == ngB y)) (q.natAbs * y.natAbs) = x := by rw [h]; exact sg_mul q y
  have hs : ngB x = (!(ngB q == ngB y)) := by rw [← hx]; exact ngB_sg_pos (Nat.mul_pos (by omega) hp)
  rw [hs]
  have h1 := sg_self q
  revert h1
  cases ngB q <;> cases ngB y <;> exact id
set_option maxHeartbeats 1600000 in
set_option maxRecDepth 100000 in
theorem zexact_ok (a0 : Value) (x : Int) (a1 : Value) (y : Int) (q : Int) (w : World) (h0 : IsZ w a0 x) (h1 : IsZ w a1 y) (hl : lenZ x ≤ 20000) (hl2 : lenZ y ≤ 20000) (hy : y ≠ 0) (hq : x = q * y) :
  Calls Try.prog 68 #[a0, a1] w (RetZE q 0 w) := by
 obtain ⟨u0, rfl, s0⟩ := h0
 obtain ⟨A0, c0, rfl, _⟩ := id s0
 obtain ⟨u1, rfl, s1⟩ := h1
 obtain ⟨A1, c1, rfl, _⟩ := id s1
 have HL : Hid ((digs 4294967296 x.natAbs).length ≤ 90000) := Nat.le_trans hl (by omega)
 have HL2 : Hid ((digs 4294967296 y.natAbs).length ≤ 90000) := Nat.le_trans hl2 (by omega)
 obtain ⟨hm1, hm2, hm3⟩ := exact_q hy hq
 have HY : Hid (0 < y.natAbs) := by show 0 < _; omega
 have HM1 := Lib.hid hm1
 have HM2 := Lib.hid hm2
 have HZ := Lib.hid hm3
 clear hm1 hm2 hm3 hy hq
 go_enter Try.func68, Try.ntmps68
 go_upto_region 1 with (fail)
 obtain ⟨wx, hwx, bb, B0, B1, B2, hsz⟩ := vars3 w 29 29 29 #[.bool (ngB x), .slice A0 (digs 4294967296 (x).natAbs).length c0] #[.bool (ngB y), .slice A1 (digs 4294967296 (y).natAbs).length c1] #[.bool false, .slice none 0 0]
 rw [hwx]
 clear hwx
 have k0s := s0.below bb
 have k0 : IsZ wx (.agg #[.bool (ngB x), .slice A0 (digs 4294967296 (x).natAbs).length c0]) (x) := isZ_mk k0s rfl rfl
 have k1s := s1.below bb
 have k1 : IsZ wx (.agg #[.bool (ngB y), .slice A1 (digs 4294967296 (y).natAbs).length c1]) (y) := isZ_mk k1s rfl rfl
 have hszb := bb.size
 have bb0 := bb.size
 refine flowp 10 [Pd.eq (.pointer (some ⟨w.heap.size, 1, none⟩)), Pd.eq (.slice A0 (digs 4294967296 (x).natAbs).length c0), Pd.eq (.pointer (some ⟨w.heap.size + 1, 1, none⟩)), Pd.eq (.slice A1 (digs 4294967296 (y).natAbs).length c1), pt .u64 (digs 4294967296 q.natAbs) 0 wx.heap.size, pt .u64 (digs 4294967296 q.natAbs) 0 wx.heap.size, ps .u64 (digs 4294967296 q.natAbs) wx.heap.size, Pd.eq (.int .i64 0), ps .u64 (digs 4294967296 q.natAbs) wx.heap.size, Pd.eq (.int .i64 0)] (by kernel_rfl) ?ob3 ?done3
 case ob3 =>
  refine And.intro (ob_fieldAddr rfl (wt_none rfl) (ev_far rfl rfl) (fun _ => by kernel_rfl) (fun _ => rfl)) ?_
  refine And.intro (ob_load rfl (wt_none rfl) (ev_dep (j := 0) (by kernel_rfl) rfl rfl) (fun w2 hb => run_load1 Try.underlying27 rfl ((B0.below hb).cell 1)) (fun _ _ => rfl)) ?_
  refine And.intro (ob_fieldAddr rfl (wt_none rfl) (ev_far rfl rfl) (fun _ => by kernel_rfl) (fun _ => rfl)) ?_
  refine And.intro (ob_load rfl (wt_none rfl) (ev_dep (j := 2) (by kernel_rfl) rfl rfl) (fun w2 hb => run_load1 Try.underlying27 rfl ((B1.below hb).cell 1)) (fun _ _ => rfl)) ?_
  refine And.intro (ob_call2 rfl Try.func77 (by kernel_rfl) (wt_none rfl) (ev_dep (j := 1) (by kernel_rfl) rfl rfl) (ev_dep (j := 3) (by kernel_rfl) rfl rfl) (fun w2 u0 u1 hb h0 h1 => by obtain rfl := h0; obtain rfl := h1; exact (dexact_ok _ _ _ _ _ (k0s.below hb) (k1s.below hb) HL.out HL2.out HY.out _ HM1.out HM2.out.symm).mono fun e w3 h => RetSI.pd h hb.size)) ?_
  refine And.intro (ob_move rfl (wt_none rfl) (ev_dep (j := 4) (by kernel_rfl) rfl rfl) (fun _ _ h => h)) ?_
  refine And.intro (ob_extract rfl (wt_none rfl) (ev_dep (j := 5) (by kernel_rfl) rfl rfl) (fun w2 u hu => by obtain ⟨v, rfl, q1, q2⟩ := hu; exact ⟨v, rfl, q1, q2⟩)) ?_
  refine And.intro (ob_extract rfl (wt_none rfl) (ev_dep (j := 5) (by kernel_rfl) rfl rfl) (fun w2 u hu => by obtain ⟨v, rfl, q1, q2⟩ := hu; exact ⟨_, rfl, rfl⟩)) ?_
  refine And.intro (ob_assign rfl (wt_none rfl) (ev_dep (j := 6) (by kernel_rfl) rfl rfl) (fun _ _ h => h)) ?_
  refine And.intro (ob_assign rfl (wt_none rfl) (ev_dep (j := 7) (by kernel_rfl) rfl rfl) (fun _ _ h => h)) ?_
  trivial
 case done3 =>
  refine fun w1 hb1 v0 h0 v1 h1 v2 h2 v3 h3 v4 h4 v5 h5 v6 h6 v7 h7 v8 h8 v9 h9 b hbf => ?_
  obtain rfl := h0; obtain rfl := h1; obtain rfl := h2; obtain rfl := h3; obtain rfl := h7; obtain rfl := h9
  clear h4
  clear h5
  obtain ⟨q6, f6⟩ := h6
  obtain ⟨q8, f8⟩ := h8
  simp only [Act.put, List.setIfInBounds_toArray, List.set_cons_zero, List.set_cons_succ] at hbf
  subst hbf
  obtain ⟨A6, c6, rfl, _⟩ := id q8
  have kq := q8
  have kqf := f8
  replace B0 := B0.below hb1
  replace B1 := B1.below hb1
  replace B2 := B2.below hb1
  replace k0s := k0s.below hb1
  replace k1s := k1s.below hb1
  replace k0 := k0.below hb1
  replace k1 := k1.below hb1
  replace bb := bb.trans (hb1.mono bb.size)
  have hszb := bb.size
  obtain ⟨x00, x01, y00, y01⟩ := Blk.two B0
  obtain ⟨x10, x11, y10, y11⟩ := Blk.two B1
  obtain ⟨x20, x21, y20, y21⟩ := Blk.two B2
  refine ops_done ?_
  go_upto_region 4 with (fail)
  refine flowp 7 [Pd.eq (.pointer (some ⟨w.heap.size, 0, none⟩)), Pd.eq (.bool (ngB x)), Pd.eq (.pointer (some ⟨w.heap.size + 1, 0, none⟩)), Pd.eq (.bool (ngB y)), Pd.eq (.bool (!((ngB x) == (ngB y)))), Pd.eq (.slice A6 (digs 4294967296 q.natAbs).length c6), pz (q) wx.heap.size] (by kernel_rfl) ?ob4 ?done4
  case ob4 =>
   refine And.intro (ob_fieldAddr rfl (wt_none rfl) (ev_far rfl rfl) (fun _ => by kernel_rfl) (fun _ => rfl)) ?_
   refine And.intro (ob_load rfl (wt_none rfl) (ev_dep (j := 0) (by kernel_rfl) rfl rfl) (fun w2 hb => run_load1 Try.underlying4 rfl ((B0.below hb).cell 0)) (fun _ _ => rfl)) ?_
   refine And.intro (ob_fieldAddr rfl (wt_none rfl) (ev_far rfl rfl) (fun _ => by kernel_rfl) (fun _ => rfl)) ?_
   refine And.intro (ob_load rfl (wt_none rfl) (ev_dep (j := 2) (by kernel_rfl) rfl rfl) (fun w2 hb => run_load1 Try.underlying4 rfl ((B1.below hb).cell 0)) (fun _ _ => rfl)) ?_
   refine And.intro (ob_bin rfl (wt_none rfl) (ev_dep (j := 1) (by kernel_rfl) rfl rfl) (ev_dep (j := 3) (by kernel_rfl) rfl rfl) (fun _ _ _ hx hy => ⟨.bool (!((ngB x) == (ngB y))), by rw [hx, hy]; exact bin_neq_bool _ _ _ _ Try.underlying4 _, rfl⟩)) ?_
   refine And.intro (ob_move rfl (wt_none rfl) (ev_far rfl rfl) (fun _ _ h => h)) ?_
   refine And.intro (ob_call2 rfl Try.func40 (by kernel_rfl) (wt_none rfl) (ev_dep (j := 4) (by kernel_rfl) rfl rfl) (ev_dep (j := 5) (by kernel_rfl) rfl rfl) (fun w2 u0 u1 hb h0 h1 => by obtain rfl := h0; obtain rfl := h1; exact signed_pd _ _ _ (q) _ (kq.below hb) kqf HZ.out)) ?_
   trivial
  case done4 =>
   refine fun w2 hb2 v0 h0 v1 h1 v2 h2 v3 h3 v4 h4 v5 h5 v6 h6 b hbf => ?_
   obtain rfl := h0; obtain rfl := h1; obtain rfl := h2; obtain rfl := h3; obtain rfl := h4; obtain rfl := h5
   obtain ⟨q6, f6⟩ := h6
   simp only [Act.put, List.setIfInBounds_toArray, List.set_cons_zero, List.set_cons_succ] at hbf
   subst hbf
   obtain ⟨u6, rfl, q6⟩ := q6
   obtain ⟨A9, c9, rfl, _⟩ := id q6
   have B9 := B2.below hb2
   refine ops_store (i := 7) rfl rfl rfl rfl rfl rfl (cells := [.bool (ngB (q)), .slice A9 (digs 4294967296 (q).natAbs).length c9]) rfl B9 rfl (by kernel_rfl) (one2 rfl rfl) fun w9 hg9 BB9 => ?_
   have k9 := off q6 B9 no_ints2 hg9
   have f9 := (f6 _ _ rfl).mono bb0
   have bb9 := ((bb.trans (hb2.mono bb.size)).trans ((Below.refl _ _).grown hg9 (Nat.le_trans bb.size hb2.size) (fun g hg => by injection hg with hg; omega)))
   obtain ⟨c0, c1, _, _⟩ := Blk.two BB9
   refine ops_assign (i := 8) (.int .i64 0) rfl rfl rfl rfl rfl fun b hbf => ?_
   simp only [Act.put, List.setIfInBounds_toArray, List.set_cons_zero, List.set_cons_succ] at hbf
   subst hbf
   refine ops_done ?_
   go_wp2
   exact bodyPost_ret (v := .tuple #[.agg #[.bool (ngB (q)), .slice A9 (digs 4294967296 (q).natAbs).length c9], .int .i64 0]) (by simp [results, Try.results68, go_sem, c0, c1]) rfl ⟨_, rfl, isZ_mk k9 rfl rfl, freshZ_mk f9, bb9⟩
set_option maxHeartbeats 800000 in
theorem zof_any (n : Int) (w : World) (h1 : -9223372036854775808 ≤ n) (h2 : n ≤ 9223372036854775807) :
  Calls Try.prog 17 #[.int .i64 n] w (RetZ n w) := by
 by_cases hn : n < 0
 ·have HW : Hid (IntKind.u64.wrap (-IntKind.u64.wrap n) = ((n.natAbs : Nat) : Int)) := by
   show _ = _
   rw [IntKind.wrap_u64, IntKind.wrap_u64]; omega
  have HB : Hid (IntKind.u64.wrap (-IntKind.u64.wrap n) ≤ 18446744073709551615) := by
   show _ ≤ _
   rw [HW.out]; omega
  have HZ : Hid (sg true n.natAbs = n) := by show _ = _; rw [sg_true]; omega
  go_enter Try.func17, Try.ntmps17
  go_wp2_with fail
  refine (of_any _ n.natAbs _ HW.out HB.out).mono ?_
  rintro e w1 ⟨v1, rfl, k1, f1, b1⟩
  obtain ⟨A1, C1, rfl, _⟩ := id k1
  go_wp2_with fail
  refine (signed_pd true _ n.natAbs n _ k1 f1 HZ.out).mono ?_
  rintro e w2 ⟨v2, rfl, ⟨⟨u2, rfl, k2⟩, f2⟩, b2⟩
  obtain ⟨A2, C2, rfl, _⟩ := id k2
  have B2 := ((Blk.new w 29 #[.bool false, .slice none 0 0]).below b1).below b2
  obtain ⟨c0, c1, g0, g1⟩ := B2.two
  have bb1 := (below_alloc (Nat.le_refl w.heap.size) (.cells #[.bool false, .slice none 0 0] 29)).trans (b1.mono (by simp))
  have bb2 := bb1.trans (b2.mono bb1.size)
  go_wp2
  exact bodyPost_ret (v := .agg #[.bool (ngB n), .slice A2 (digs 4294967296 n.natAbs).length C2]) (by simp [results, Try.results17, go_sem, c0, c1]) rfl (endZ bb2 (Nat.le_refl _) (by simp) k2 (f2 _ _ rfl) rfl)
 ·have HW : Hid (n = ((n.natAbs : Nat) : Int)) := by show _ = _; omega
  have HZ : Hid (sg false n.natAbs = n) := by show _ = _; rw [sg_false]; omega
  have hn0 : 0 ≤ n := by omega
  go_enter Try.func17, Try.ntmps17
  go_wp2_with fail
  refine (of_any _ n.natAbs _ HW.out (by omega)).mono ?_
  rintro e w1 ⟨v1, rfl, k1, f1, b1⟩
  obtain ⟨A1, C1, rfl, _⟩ := id k1
  go_wp2_with fail
  refine (signed_pd false _ n.natAbs n _ k1 f1 HZ.out).mono ?_
  rintro e w2 ⟨v2, rfl, ⟨⟨u2, rfl, k2⟩, f2⟩, b2⟩
  obtain ⟨A2, C2, rfl, _⟩ := id k2
  have B2 := ((Blk.new w 29 #[.bool false, .slice none 0 0]).below b1).below b2
  obtain ⟨c0, c1, g0, g1⟩ := B2.two
  have bb1 := (below_alloc (Nat.le_refl w.heap.size) (.cells #[.bool false, .slice none 0 0] 29)).trans (b1.mono (by simp))
  have bb2 := bb1.trans (b2.mono bb1.size)
  go_wp2
  exact bodyPost_ret (v := .agg #[.bool (ngB n), .slice A2 (digs 4294967296 n.natAbs).length C2]) (by simp [results, Try.results17, go_sem, c0, c1]) rfl (endZ bb2 (Nat.le_refl _) (by simp) k2 (f2 _ _ rfl) rfl)
end Go.Proofs.Yteijlcfhenlanaa.whl
namespace Go.Proofs.Yteijlcfhenlanaa.whl
open Go.RowKit Go.ChangeShapes Go.WideShapes Go.ChangeAt Go.Joins Go.Deep Go.Proofs.Yteijlcfhenlanaa.num Go.Proofs.Yteijlcfhenlanaa.mem Go.Proofs.Yteijlcfhenlanaa.nat Go.Proofs.Yteijlcfhenlanaa.txt Go.Proofs.Yteijlcfhenlanaa.str Go.Proofs.Yteijlcfhenlanaa.flow
set_option linter.unusedVariables false
theorem trod_nat {H : Type} {enc : TypeId × Value → H} {P : Program} {W : World} {t e : TypeId} {n : Nat} {v : Value} {y : DataW H × List MemPlace} (ht : P.underlying t = some (.slice e)) (he : P.underlying e = some (.int .u64)) (hc : P.cellsOf e = 1)
  (h : DataW.trod enc P W 0 (fun _ => true) true n t [v] = some y) : ∃ l : List Nat, IsS W .u64 v l ∧ Lt 18446744073709551616 l := by
 rcases open_ints ht he hc h with ⟨hcs, hx⟩ | ⟨a, len, cap, zs, hcs, _, hl, hm, hz, hx, hcell, hwz⟩
 ·injection hcs with hcs _
  subst hcs
  exact ⟨[], isNil _ _, Lt.nil _⟩
 ·injection hcs with hcs _
  subst hcs
  simp only [if_true] at hz
  have hlen : ((zs.take len).map Int.toNat).length = len := by simp; omega
  refine ⟨(zs.take len).map Int.toNat, ⟨some a, cap, by rw [hlen], by rw [hlen]; exact hl, hm, ?_⟩, ?_⟩
  ·intro i d hd
   have hi : i < len := by rw [← hlen]; exact (List.getElem?_eq_some_iff.1 hd).1
   have hi2 : i < zs.length := by omega
   refine ⟨a, rfl, ?_⟩
   rw [hcell i hi2]
   have hb := wf_u64 (hwz _ (List.getElem_mem hi2))
   have hd2 : d = (zs[i]).toNat := by
    rw [List.getElem?_map, List.getElem?_take_of_lt hi, List.getElem?_eq_getElem hi2] at hd
    simpa using hd.symm
   rw [List.getD_eq_getElem?_getD, List.getElem?_eq_getElem hi2, hd2]
   simp only [Option.getD_some]
   rw [Int.toNat_of_nonneg hb.1]
  ·intro d hd
   obtain ⟨z, hz1, rfl⟩ := List.mem_map.1 hd
   have hb := wf_u64 (hwz z (List.mem_of_mem_take hz1))
   omega
theorem lenZ_mul_le {x y : Int} {m n : Nat} (h : lenZ x ≤ m) (h' : lenZ y ≤ n) : lenZ (x * y) ≤ m + n := by have := lenZ_mul x y; omega
theorem lenZ_neg_le {x : Int} {m : Nat} (h : lenZ x ≤ m) : lenZ (-x) ≤ m := by rw [lenZ_neg]; exact h
/-- A variable that the region made: it holds its type's zero value. -/
def pn (t : TypeId) (cells : Array Value) (B : Nat) : Pd := ⟨fun w v => ∃ g, v = .pointer (some ⟨g, 0, none⟩) ∧ B ≤ g ∧ Blk w g t cells, fun h hb => by obtain ⟨g, e, h1, h2⟩ := h; exact ⟨g, e, h1, h2.below hb⟩⟩
theorem zsame_eq (a0 a1 : Value) (x y : Int) (w : World) (h0 : IsZ w a0 x) (h1 : IsZ w a1 y) (e : x = y) : Calls Try.prog 12 #[a0, a1] w (RetV (.bool true) w) := by
 subst e
 exact zsame_one a0 a1 x w h0 h1
end Go.Proofs.Yteijlcfhenlanaa.whl
namespace Go.Proofs.Yteijlcfhenlanaa.flow
open Go.RowKit Go.Proofs.Yteijlcfhenlanaa.num Go.Proofs.Yteijlcfhenlanaa.mem
set_option linter.unusedVariables false
section
variable {P : Program} {Q : Exit → Act → World → Prop} {ops : Array Oper} {L : List Oper} {Φ : List Pd} {w0 : World} {a0 : Act} {i : Nat} {o : Oper}
end
end Go.Proofs.Yteijlcfhenlanaa.flow
namespace Go.Proofs.Yteijlcfhenlanaa.whl
open Go.RowKit Go.Proofs.Yteijlcfhenlanaa.num Go.Proofs.Yteijlcfhenlanaa.mem Go.Proofs.Yteijlcfhenlanaa.nat Go.Proofs.Yteijlcfhenlanaa.txt Go.Proofs.Yteijlcfhenlanaa.str Go.Proofs.Yteijlcfhenlanaa.flow
set_option linter.unusedVariables false
theorem vars1 (w : World) (t1 : TypeId) (x : Array Value) : ∃ wx, w.alloc (.cells x t1) = wx ∧ Below w.heap.size w wx ∧ Blk wx w.heap.size t1 x ∧ w.heap.size < wx.heap.size := ⟨_, rfl, below_alloc (Nat.le_refl _) _, Blk.new w t1 x, by simp⟩
end Go.Proofs.Yteijlcfhenlanaa.whl
namespace Go.Proofs.Yteijlcfhenlanaa.nat
open Go.RowKit Go.Proofs.Yteijlcfhenlanaa.num Go.Proofs.Yteijlcfhenlanaa.mem
set_option linter.unusedVariables false
set_option maxHeartbeats 800000 in
theorem mulAdd_zero (v : Value) (c : Nat) (w : World) (h : IsS w .i64 v []) (c1 : c ≤ 9223372036854775807) :
  Calls Try.prog 66 #[v, .int .i64 1, .int .i64 (c : Int)] w (RetS .i64 (digs 10000 c) w) := by
 obtain ⟨A, cap, rfl, hcap, hcm, hr⟩ := h
 have h20 : c < 10000 ^ 5 := by
  have : (10000 : Nat) ^ 5 = 100000000000000000000 := by decide
  omega
 have H20 := Lib.hid h20
 clear h20
 go_enter Try.func66, Try.ntmps66
 go_wp2
 go_loopw [2, 7, 8] (fun vc vo vi wr => Own wr w.heap.size 3 .i64 vo [] ∧ Below w.heap.size w wr ∧ vc = .int .i64 (c : Int) ∧ vi = .int .i64 0) (fun _ _ _ _ => 0)
 case atStart => exact ⟨own_lit0 w _ _ .i64 (Nat.le_refl _), below_alloc (Nat.le_refl _) _, rfl, rfl⟩
 case round =>
  obtain ⟨hown, hb, rfl, rfl⟩ := hrel
  go_wp2
  go_loopw [2, 7] (fun vc vo wr => ∃ (c' j : Nat) (o : List Nat), c' ≤ 9223372036854775807 ∧ Hid (c' < 10000 ^ j) ∧ o.length + j ≤ 5 ∧ MB c c' o ∧ Own wr w.heap.size 3 .i64 vo o ∧ Below w.heap.size w wr ∧ vc = .int .i64 (c' : Int)) (fun vc _ _ => (intOf vc).toNat)
  case atStart => exact ⟨c, 5, [], c1, H20, by simp, by unfold MB; exact ⟨Lt.nil _, by simp [val]⟩, hown, hb, rfl⟩
  case round =>
   clear hown hb
   obtain ⟨c2, j, o2, hc', HJ, hoj, hM, hown, hb, rfl⟩ := hrel
   have hsz := hb.size
   by_cases hp : 0 < c2
   ·have HM := Lib.hid hM.step
    clear hM
    obtain ⟨j, rfl⟩ : ∃ i, j = i + 1 := by
     rcases j with _ | j
     ·have := HJ.out; simp at this; omega
     ·exact ⟨j, rfl⟩
    have HJ2 : Hid (c2 / 10000 < 10000 ^ j) := by
     show _ < _
     have := HJ.out
     rw [Nat.pow_succ] at this
     exact Nat.div_lt_of_lt_mul (by rw [Nat.mul_comm]; exact this)
    go_wp2_with (at_builtin; refine wpList_append_one rfl (.tmp 33) (.tmp 36) rfl sl33 (c2 % 10000) rfl hown rfl (by omega) (by omega) (by omega) ?_; intro v' w1 hown1 hb1 hg1)
    go_roundw
    case rel => exact ⟨_, j, _, by omega, HJ2, by simp; omega, HM.out, hown1, hb.trans hb1, int_eq (by omega)⟩
    case measure => simp [intOf]; omega
   ·obtain rfl : c2 = 0 := by omega
    obtain ⟨h1, h2⟩ := hM.done
    have HV := Lib.hid h2
    clear h2 hM
    go_wp2_with fail
    refine (refTrim_any _ _ _ hown.isS h1 (by omega)).mono ?_
    rintro e w' ⟨v', rfl, hv, hf, hb2⟩
    go_wp2
    go_ret
    exact ⟨_, rfl, by rw [HV.out] at hv; exact hv, hf.mono hsz, hb.trans (hb2.mono hsz)⟩
set_option maxHeartbeats 400000 in
/-- Of any number that is an int. -/
theorem refNum_wide (nI : Int) (n : Nat) (w : World) (hn : nI = (n : Int)) (n1 : n ≤ 9223372036854775807) :
  Calls Try.prog 53 #[.int .i64 nI] w (RetS .i64 (digs 10000 n) w) := by
 subst hn
 go_enter Try.func53, Try.ntmps53
 go_wp2_with fail
 refine (mulAdd_zero _ n _ (own_lit0 w w.heap.size _ .i64 (Nat.le_refl _)).isS n1).mono ?_
 rintro e w' ⟨v', rfl, hv, hf, hb⟩
 go_wp2
 go_ret
 exact ⟨_, rfl, hv, hf.mono (by simp), (below_alloc (Nat.le_refl _) _).trans (hb.mono (by simp))⟩
end Go.Proofs.Yteijlcfhenlanaa.nat
namespace Go.Proofs.Yteijlcfhenlanaa.whl
open Go.RowKit Go.Proofs.Yteijlcfhenlanaa.num Go.Proofs.Yteijlcfhenlanaa.mem Go.Proofs.Yteijlcfhenlanaa.nat Go.Proofs.Yteijlcfhenlanaa.txt Go.Proofs.Yteijlcfhenlanaa.str Go.Proofs.Yteijlcfhenlanaa.flow
set_option linter.unusedVariables false
section
variable {P : Program}
end
/-- A slice of whole numbers: each as its sign and the slice of its limbs. -/
def IsVZ (w : World) (v : Value) (ps : List (Int × Value)) : Prop := ∃ A c, v = .slice A ps.length c ∧ ps.length ≤ c ∧ ∀ i p, ps[i]? = some p → ∃ ad, A = some ad ∧ w.cell? (ad.add (i * 2)) = some (.bool (ngB p.1)) ∧ w.cell? (ad.add (i * 2 + 1)) = some p.2
def NumsZ (w : World) (ps : List (Int × Value)) : Prop := ∀ p ∈ ps, IsS w .u64 p.2 (digs 4294967296 p.1.natAbs)
def hi (ps : List (Int × Value)) : List (Int × Value) := ps.filter fun p => !ngB p.1
theorem IsVZ.below {w w' : World} {v : Value} {ps : List (Int × Value)} (h : IsVZ w v ps) (hb : Below w.heap.size w w') : IsVZ w' v ps := by
 obtain ⟨A, c, e, h1, h2⟩ := h
 refine ⟨A, c, e, h1, fun i p hp => ?_⟩
 obtain ⟨ad, ha, hc, hd⟩ := h2 i p hp
 exact ⟨ad, ha, (hb.cell (World.block_lt_of_cell? w _ hc)).trans hc, (hb.cell (World.block_lt_of_cell? w _ hd)).trans hd⟩
theorem NumsZ.below {w w' : World} {ps : List (Int × Value)} (h : NumsZ w ps) (hb : Below w.heap.size w w') : NumsZ w' ps := fun p hp => (h p hp).below hb
theorem RowV.other {w w' : World} {base : Nat} {e : TypeId} {v : Value} {vs : List Value} {row : Option Nat} (h : RowV w base e v vs) (hg : w.grownBy w' row) (hne : ∀ g, v.ownBlock = some g → row ≠ some g) : RowV w' base e v vs :=
 World.ownsRow.kept (row := row) h hg (by
  cases hv : v.ownBlock with
  | none => exact .inl rfl
  | some g => exact .inr fun e => hne g hv e.symm)
/-- The cell behind the first. -/
theorem at_one (a : Addr) (i : Nat) : a.add (i * 2 + 1) = { block := (a.add (i * 2)).block, off := (a.add (i * 2)).off + 1, spot := none } := by
 unfold Addr.add
 by_cases h : i * 2 = 0
 ·simp [h]
 ·simp [h, Nat.add_assoc]
end Go.Proofs.Yteijlcfhenlanaa.whl
namespace Go.Proofs.Yteijlcfhenlanaa.whl
open Go.RowKit Go.ChangeShapes Go.WideShapes Go.ChangeAt Go.Joins Go.Deep Go.Proofs.Yteijlcfhenlanaa.num Go.Proofs.Yteijlcfhenlanaa.mem Go.Proofs.Yteijlcfhenlanaa.nat Go.Proofs.Yteijlcfhenlanaa.txt Go.Proofs.Yteijlcfhenlanaa.str Go.Proofs.Yteijlcfhenlanaa.flow
set_option linter.unusedVariables false
/-- A slice of structs of a sign and limbs, as it came in. -/
def ArgZ (w : World) (v : Value) : Prop := ∃ A n c, v = .slice A n c ∧ n ≤ c ∧ c ≤ maxLen ∧ ∀ i, i < n → ∃ ad b u l, A = some ad ∧ w.cell? (ad.add (i * 2)) = some (.bool b) ∧ w.cell? (ad.add (i * 2 + 1)) = some u ∧ IsS w .u64 u l ∧ Lt 18446744073709551616 l
/-- A row's cells: a sign and a slice each. -/
def flat (ps : List (Int × Value)) : List Value := ps.flatMap fun p => [.bool (ngB p.1), p.2]
theorem flat_at : ∀ (ps : List (Int × Value)) (i : Nat) (p : Int × Value), ps[i]? = some p → (flat ps)[i * 2]? = some (.bool (ngB p.1)) ∧ (flat ps)[i * 2 + 1]? = some p.2
  | [], i, p, h => by simp at h
  | q :: ps, 0, p, h => by
    obtain rfl : q = p := by simpa using h
    exact ⟨rfl, rfl⟩
  | q :: ps, i + 1, p, h => by
    have ih := flat_at ps i p (by simpa using h)
    have e : flat (q :: ps) = .bool (ngB q.1) :: q.2 :: flat ps := rfl
    rw [e, show (i + 1) * 2 = i * 2 + 1 + 1 from by omega]
    simpa using ih
/-- A row of the call's own that holds these whole numbers. -/
def RowZ (w : World) (base : Nat) (v : Value) (ps : List (Int × Value)) : Prop := w.ownsRow base 29 2 v ps.length (flat ps)
theorem RowZ.below {w w' : World} {base : Nat} {v : Value} {ps : List (Int × Value)} (h : RowZ w base v ps) (hb : Below w.heap.size w w') : RowZ w' base v ps :=
 World.ownsRow.kept (row := none) h ⟨hb.os, hb.tape, hb.output, hb.size, fun i hi _ => hb.block i hi⟩ (by cases hv : v.ownBlock <;> simp)
theorem RowZ.other {w w' : World} {base : Nat} {v : Value} {ps : List (Int × Value)} {row : Option Nat} (h : RowZ w base v ps) (hg : w.grownBy w' row) (hne : ∀ g, v.ownBlock = some g → row ≠ some g) : RowZ w' base v ps :=
 World.ownsRow.kept (row := row) h hg (by
  cases hv : v.ownBlock with
  | none => exact .inl rfl
  | some g => exact .inr fun e => hne g hv e.symm)
theorem info_int : ∃ i, Try.prog.info? 29 = some i ∧ i.zero = some (.agg #[.bool false, .slice none 0 0]) ∧ i.size = 2 ∧ i.bytes = 32 := info_parts (P := Try.prog) (e := 29) (z := .agg #[.bool false, .slice none 0 0]) (size := 2) (bytes := 32) (by kernel_rfl)
/-- Whole numbers in a row that lie elsewhere than the row itself. -/
def FarZ (w : World) (v : Value) (ps : List (Int × Value)) : Prop := ∀ p ∈ ps, IsS w .u64 p.2 (digs 4294967296 p.1.natAbs) ∧ Far v p.2
theorem FarZ.below {w w' : World} {v : Value} {ps : List (Int × Value)} (h : FarZ w v ps) (hb : Below w.heap.size w w') : FarZ w' v ps := fun p hp => ⟨(h p hp).1.below hb, (h p hp).2⟩
theorem Blk.other {w w' : World} {g : Nat} {t : TypeId} {cs : Array Value} {row : Option Nat} (h : Blk w g t cs) (hg : w.grownBy w' row) (hne : row ≠ some g) : Blk w' g t cs := (hg.block g h.lt (fun e => hne e.symm)).trans h
end Go.Proofs.Yteijlcfhenlanaa.whl
namespace Go.Proofs.Yteijlcfhenlanaa.rat
open Go.RowKit Go.Proofs.Yteijlcfhenlanaa.num Go.Proofs.Yteijlcfhenlanaa.mem Go.Proofs.Yteijlcfhenlanaa.nat Go.Proofs.Yteijlcfhenlanaa.txt Go.Proofs.Yteijlcfhenlanaa.str Go.Proofs.Yteijlcfhenlanaa.flow Go.Proofs.Yteijlcfhenlanaa.whl
set_option linter.unusedVariables false
set_option maxHeartbeats 1600000 in
set_option maxRecDepth 100000 in
theorem rnum7_any (n : Int) (w : World) (h1 : -9223372036854775807 ≤ n) (h2 : n ≤ 9223372036854775807) :
  Calls Try.prog 31 #[.int .i64 n] w (RetR n w) := by
 by_cases hn : n < 0
 ·have HZ : Hid (sg true n.natAbs = n) := by show _ = _; rw [sg_true]; omega
  go_enter Try.func31, Try.ntmps31
  go_upto_region 1 with (fail)
  obtain ⟨wx, hwx, bb, BR0, hsz⟩ := vars1 w 41 #[.bool false, .slice none 0 0]
  rw [hwx]
  clear hwx
  go_upto_region 2 with (fail)
  refine flowp 4 [Pd.eq (.int .i64 n), Pd.eq (.int .i64 (-n)), ps .i64 (digs 10000 n.natAbs) wx.heap.size, pr (n)] (by kernel_rfl) ?ob16 ?done16
  case ob16 =>
   refine And.intro (ob_move rfl (wt_none rfl) (ev_far rfl rfl) (fun _ _ h => h)) ?_
   refine And.intro (ob_un rfl (wt_none rfl) (ev_dep (j := 0) (by kernel_rfl) rfl rfl) (fun _ => un_neg _ _ (by omega)) (fun _ => rfl)) ?_
   refine And.intro (ob_call1 rfl Try.func53 (by kernel_rfl) (wt_none rfl) (ev_dep (j := 1) (by kernel_rfl) rfl rfl) (fun w2 u0 hb h0 => by obtain rfl := h0; exact (refNum_wide _ n.natAbs _ (by omega) (by omega)).mono fun e w3 h => RetS.pd h hb.size)) ?_
   refine And.intro (ob_call2 rfl Try.func48 (by kernel_rfl) (wt_none rfl) (ev_const _) (ev_dep (j := 2) (by kernel_rfl) rfl rfl) (fun w2 u0 u1 hb h0 h1 => by obtain rfl := h0; exact made_pd _ _ _ n _ h1.1 HZ.out)) ?_
   trivial
  case done16 =>
   refine fun w1 hb1 v0 h0 v1 h1 v2 h2 v3 h3 b hbf => ?_
   obtain rfl := h0; obtain rfl := h1
   obtain ⟨q2, f2⟩ := h2
   have q3 := h3
   simp only [Act.put, List.setIfInBounds_toArray, List.set_cons_zero, List.set_cons_succ] at hbf
   subst hbf
   replace BR0 := BR0.below hb1
   replace bb := bb.trans (hb1.mono bb.size)
   have hsz1 := bb.size
   obtain ⟨u3, rfl, q3⟩ := q3
   obtain ⟨A9, c9, rfl, _⟩ := id q3
   refine ops_store (i := 4) rfl rfl rfl rfl rfl rfl (cells := [.bool (ngB n), .slice A9 (digs 10000 n.natAbs).length c9]) rfl BR0 rfl (by kernel_rfl) (one2 rfl rfl) fun w9 hg9 B9 => ?_
   have k9 := off q3 BR0 no_ints2 hg9
   have bb9 := bb.trans ((Below.refl _ _).grown hg9 bb.size (fun g hg => by injection hg with hg; omega))
   obtain ⟨c0, c1, _, _⟩ := Blk.two B9
   refine ops_done ?_
   go_wp2
   exact bodyPost_ret (v := .agg #[.bool (ngB n), .slice A9 (digs 10000 n.natAbs).length c9]) (by simp [results, Try.results31, go_sem, c0, c1]) rfl ⟨_, rfl, ⟨_, rfl, k9⟩, bb9⟩
 ·have HZ : Hid (sg false n.natAbs = n) := by show _ = _; rw [sg_false]; omega
  go_enter Try.func31, Try.ntmps31
  go_upto_region 1 with (fail)
  obtain ⟨wx, hwx, bb, BR0, hsz⟩ := vars1 w 41 #[.bool false, .slice none 0 0]
  rw [hwx]
  clear hwx
  go_upto_region 3 with (fail)
  refine flowp 3 [Pd.eq (.int .i64 n), ps .i64 (digs 10000 n.natAbs) wx.heap.size, pr (n)] (by kernel_rfl) ?ob17 ?done17
  case ob17 =>
   refine And.intro (ob_move rfl (wt_none rfl) (ev_far rfl rfl) (fun _ _ h => h)) ?_
   refine And.intro (ob_call1 rfl Try.func53 (by kernel_rfl) (wt_none rfl) (ev_dep (j := 0) (by kernel_rfl) rfl rfl) (fun w2 u0 hb h0 => by obtain rfl := h0; exact (refNum_wide _ n.natAbs _ (by omega) (by omega)).mono fun e w3 h => RetS.pd h hb.size)) ?_
   refine And.intro (ob_call2 rfl Try.func48 (by kernel_rfl) (wt_none rfl) (ev_const _) (ev_dep (j := 1) (by kernel_rfl) rfl rfl) (fun w2 u0 u1 hb h0 h1 => by obtain rfl := h0; exact made_pd _ _ _ n _ h1.1 HZ.out)) ?_
   trivial
  case done17 =>
   refine fun w1 hb1 v0 h0 v1 h1 v2 h2 b hbf => ?_
   obtain rfl := h0
   obtain ⟨q1, f1⟩ := h1
   have q2 := h2
   simp only [Act.put, List.setIfInBounds_toArray, List.set_cons_zero, List.set_cons_succ] at hbf
   subst hbf
   replace BR0 := BR0.below hb1
   replace bb := bb.trans (hb1.mono bb.size)
   have hsz1 := bb.size
   obtain ⟨u2, rfl, q2⟩ := q2
   obtain ⟨A9, c9, rfl, _⟩ := id q2
   refine ops_store (i := 3) rfl rfl rfl rfl rfl rfl (cells := [.bool (ngB n), .slice A9 (digs 10000 n.natAbs).length c9]) rfl BR0 rfl (by kernel_rfl) (one2 rfl rfl) fun w9 hg9 B9 => ?_
   have k9 := off q2 BR0 no_ints2 hg9
   have bb9 := bb.trans ((Below.refl _ _).grown hg9 bb.size (fun g hg => by injection hg with hg; omega))
   obtain ⟨c0, c1, _, _⟩ := Blk.two B9
   refine ops_done ?_
   go_wp2
   exact bodyPost_ret (v := .agg #[.bool (ngB n), .slice A9 (digs 10000 n.natAbs).length c9]) (by simp [results, Try.results31, go_sem, c0, c1]) rfl ⟨_, rfl, ⟨_, rfl, k9⟩, bb9⟩
end Go.Proofs.Yteijlcfhenlanaa.rat
namespace Go.Proofs.Yteijlcfhenlanaa.flow
open Go.RowKit Go.Proofs.Yteijlcfhenlanaa.num Go.Proofs.Yteijlcfhenlanaa.mem Go.Proofs.Yteijlcfhenlanaa.nat Go.Proofs.Yteijlcfhenlanaa.txt Go.Proofs.Yteijlcfhenlanaa.str
set_option linter.unusedVariables false
section
variable {P : Program} {Q : Exit → Act → World → Prop} {ops : Array Oper} {o : Oper}
end
section
variable {P : Program} {Q : Exit → Act → World → Prop} {ops : Array Oper} {L : List Oper} {Φ : List Pd} {w0 : World} {a0 : Act} {i : Nat} {o : Oper}
theorem ob_indexAddr {t : TypeId} {x y : Operand} {F G : World → Value → Prop} (hop : o.op = .indexAddr t x y) (hw : Wt ops L Φ w0 a0 o true) (hx : Ev L Φ w0 a0 o x F) (hy : Ev L Φ w0 a0 o y G)
  (hr : ∀ w u v, F w u → G w v → ∃ r, (Instr.indexAt t u v).run P w = .ok r w ∧ (ph Φ i).p w r) : Ob P Q ops L Φ w0 a0 i o :=
 ob_val hw (by unfold isA; rw [hop]) fun ms w hS => by
  obtain ⟨v, h1, h2⟩ := hr w _ _ (hx ms w hS) (hy ms w hS)
  exact ⟨v, by unfold execOp; simp only [hop, Sem.run_bind, h1]; rfl, h2⟩
end
end Go.Proofs.Yteijlcfhenlanaa.flow
namespace Go.Proofs.Yteijlcfhenlanaa.rat
open Go.RowKit Go.Proofs.Yteijlcfhenlanaa.num Go.Proofs.Yteijlcfhenlanaa.mem Go.Proofs.Yteijlcfhenlanaa.nat Go.Proofs.Yteijlcfhenlanaa.txt Go.Proofs.Yteijlcfhenlanaa.str Go.Proofs.Yteijlcfhenlanaa.flow Go.Proofs.Yteijlcfhenlanaa.whl
set_option linter.unusedVariables false
theorem add_len_max {x y m : Nat} (hx : (digs 4294967296 x).length ≤ m) (hy : (digs 4294967296 y).length ≤ m) : (digs 4294967296 (x + y)).length ≤ m + 1 := by
 have h1 := Nat.lt_of_lt_of_le (digs_lt_pow (B := 4294967296) (by omega) x) (Nat.pow_le_pow_right (by omega) hx)
 have h2 := Nat.lt_of_lt_of_le (digs_lt_pow (B := 4294967296) (by omega) y) (Nat.pow_le_pow_right (by omega) hy)
 refine digs_len_le (by omega) ?_
 rw [Nat.pow_succ]
 omega
theorem lenZ_add_max {x y : Int} {m : Nat} (hx : lenZ x ≤ m) (hy : lenZ y ≤ m) : lenZ (x + y) ≤ m + 1 :=
 Nat.le_trans (digs_len_mono (by omega) (show (x + y).natAbs ≤ x.natAbs + y.natAbs by omega)) (add_len_max hx hy)
/-- An element: a fraction, and the slices of its parts. -/
abbrev Elt := Rat × Value × Value
/-- Its parts read as it, with limbs of this kind. -/
def IsE (k : IntKind) (B : Nat) (w : World) (p : Elt) : Prop := IsS w k p.2.1 (digs B p.1.num.natAbs) ∧ IsS w k p.2.2 (digs B p.1.den)
theorem IsE.below {k : IntKind} {B : Nat} {w w' : World} {p : Elt} (h : IsE k B w p) (hb : Below w.heap.size w w') : IsE k B w' p := ⟨h.1.below hb, h.2.below hb⟩
def cells3 (p : Elt) : List Value := [.bool (ngB p.1.num), p.2.1, p.2.2]
def flat3 (ps : List Elt) : List Value := ps.flatMap cells3
theorem flat3_at : ∀ (ps : List Elt) (i : Nat) (p : Elt), ps[i]? = some p → (flat3 ps)[i * 3]? = some (.bool (ngB p.1.num)) ∧ (flat3 ps)[i * 3 + 1]? = some p.2.1 ∧ (flat3 ps)[i * 3 + 2]? = some p.2.2
  | [], i, p, h => by simp at h
  | q :: ps, 0, p, h => by
    obtain rfl : q = p := by simpa using h
    exact ⟨rfl, rfl, rfl⟩
  | q :: ps, i + 1, p, h => by
    have ih := flat3_at ps i p (by simpa using h)
    have e : flat3 (q :: ps) = .bool (ngB q.1.num) :: q.2.1 :: q.2.2 :: flat3 ps := rfl
    rw [e, show (i + 1) * 3 = i * 3 + 1 + 1 + 1 from by omega]
    simpa using ih
/-- The value is a slice of these elements. -/
def IsVF (w : World) (v : Value) (ps : List Elt) : Prop := ∃ A c, v = .slice A ps.length c ∧ ps.length ≤ c ∧ c ≤ maxLen ∧ ∀ i p, ps[i]? = some p → ∃ g o, A = some ⟨g, o, none⟩ ∧ w.cell? ⟨g, o + i * 3, none⟩ = some (.bool (ngB p.1.num)) ∧ w.cell? ⟨g, o + i * 3 + 1, none⟩ = some p.2.1 ∧ w.cell? ⟨g, o + i * 3 + 2, none⟩ = some p.2.2
theorem IsVF.below {w w' : World} {v : Value} {ps : List Elt} (h : IsVF w v ps) (hb : Below w.heap.size w w') : IsVF w' v ps := by
 obtain ⟨A, c, e, h1, h2, h3⟩ := h
 refine ⟨A, c, e, h1, h2, fun i p hp => ?_⟩
 obtain ⟨g, o, e2, c0, c1, c2⟩ := h3 i p hp
 exact ⟨g, o, e2, (hb.cell (World.block_lt_of_cell? w _ c0)).trans c0, (hb.cell (World.block_lt_of_cell? w _ c1)).trans c1, (hb.cell (World.block_lt_of_cell? w _ c2)).trans c2⟩
/-- The value reads as these fractions, with limbs of this kind. -/
def SlF (k : IntKind) (B : Nat) (w : World) (v : Value) (qs : List Rat) : Prop := ∃ ps : List Elt, ps.map (·.1) = qs ∧ IsVF w v ps ∧ ∀ p ∈ ps, IsE k B w p
theorem SlF.below {k : IntKind} {B : Nat} {w w' : World} {v : Value} {qs : List Rat} (h : SlF k B w v qs) (hb : Below w.heap.size w w') : SlF k B w' v qs := by
 obtain ⟨ps, e, h1, h2⟩ := h
 exact ⟨ps, e, h1.below hb, fun p hp => (h2 p hp).below hb⟩
theorem SlF.shape {k : IntKind} {B : Nat} {w : World} {v : Value} {qs : List Rat} (h : SlF k B w v qs) : ∃ A c, v = .slice A qs.length c ∧ qs.length ≤ c ∧ c ≤ maxLen := by
 obtain ⟨ps, rfl, ⟨A, c, e, h1, h2, _⟩, _⟩ := h
 rw [List.length_map]
 exact ⟨A, c, e, h1, h2⟩
/-- A row of the call's own that holds these elements. -/
def RowF (T : TypeId) (w : World) (base : Nat) (v : Value) (ps : List Elt) : Prop := w.ownsRow base T 3 v ps.length (flat3 ps)
theorem RowF.below {T : TypeId} {w w' : World} {base : Nat} {v : Value} {ps : List Elt} (h : RowF T w base v ps) (hb : Below w.heap.size w w') : RowF T w' base v ps :=
 World.ownsRow.kept (row := none) h ⟨hb.os, hb.tape, hb.output, hb.size, fun i hi _ => hb.block i hi⟩ (by cases hv : v.ownBlock <;> simp)
theorem RowF.other {T : TypeId} {w w' : World} {base : Nat} {v : Value} {ps : List Elt} {row : Option Nat} (h : RowF T w base v ps) (hg : w.grownBy w' row) (hne : ∀ g, v.ownBlock = some g → row ≠ some g) : RowF T w' base v ps :=
 World.ownsRow.kept (row := row) h hg (by
  cases hv : v.ownBlock with
  | none => exact .inl rfl
  | some g => exact .inr fun e => hne g hv e.symm)
theorem RowF.isVF {T : TypeId} {w : World} {base : Nat} {v : Value} {ps : List Elt} (h : RowF T w base v ps) : IsVF w v ps := by
 rcases h.2 with ⟨rfl, h0⟩ | ⟨g, cap, cur, rfl, _, hg, hn, hm, _, _⟩
 ·obtain rfl : ps = [] := List.length_eq_zero_iff.1 h0
  exact ⟨none, 0, rfl, by simp, by unfold maxLen; omega, fun i u hu => by simp at hu⟩
 ·refine ⟨_, cap, rfl, hn, hm, fun i p hp => ⟨g, 0, rfl, ?_⟩⟩
  have e : ∀ j, (⟨g, 0, none⟩ : Addr).add j = ⟨g, 0 + j, none⟩ := by
   intro j
   unfold Addr.add
   by_cases h : j = 0
   ·simp [h]
   ·simp [h]
  obtain ⟨f0, f1, f2⟩ := flat3_at ps i p hp
  have k0 := World.ownsRow.cells h (g := g) rfl _ _ f0
  have k1 := World.ownsRow.cells h (g := g) rfl _ _ f1
  have k2 := World.ownsRow.cells h (g := g) rfl _ _ f2
  rw [e] at k0 k1 k2
  exact ⟨k0, by rw [Nat.add_assoc]; exact k1, by rw [Nat.add_assoc]; exact k2⟩
/-- Elements of a row whose slices lie elsewhere than the row itself. -/
def FarF (k : IntKind) (B : Nat) (w : World) (v : Value) (ps : List Elt) : Prop := ∀ p ∈ ps, IsE k B w p ∧ Far v p.2.1 ∧ Far v p.2.2
theorem FarF.below {k : IntKind} {B : Nat} {w w' : World} {v : Value} {ps : List Elt} (h : FarF k B w v ps) (hb : Below w.heap.size w w') : FarF k B w' v ps := fun p hp => ⟨(h p hp).1.below hb, (h p hp).2⟩
theorem RowF.sl {T : TypeId} {k : IntKind} {B : Nat} {w : World} {base : Nat} {v : Value} {ps : List Elt} (h : RowF T w base v ps) (hf : FarF k B w v ps) : SlF k B w v (ps.map (·.1)) := ⟨ps, rfl, h.isVF, fun p hp => (hf p hp).1⟩
section
variable {P : Program}
end
/-- The sum, and the product, of these. -/
def sumq (l : List Rat) : Rat := l.foldl (· + ·) 0
/-- All from 0 to 1, and their sum 1. -/
def wholeQ (l : List Rat) : Prop := (∀ q ∈ l, ¬ q < 0 ∧ ¬ 1 < q) ∧ sumq l = 1
instance (l : List Rat) : Decidable (wholeQ l) := by unfold wholeQ; infer_instance
end Go.Proofs.Yteijlcfhenlanaa.rat
namespace Go.Proofs.Yteijlcfhenlanaa.rat
open Go.RowKit Go.ChangeShapes Go.WideShapes Go.ChangeAt Go.Joins Go.Deep Go.Proofs.Yteijlcfhenlanaa.num Go.Proofs.Yteijlcfhenlanaa.mem Go.Proofs.Yteijlcfhenlanaa.nat Go.Proofs.Yteijlcfhenlanaa.txt Go.Proofs.Yteijlcfhenlanaa.str Go.Proofs.Yteijlcfhenlanaa.flow Go.Proofs.Yteijlcfhenlanaa.whl
set_option linter.unusedVariables false
/-- A slice of structs of a sign, limbs, and limbs, as it came in. -/
def ArgQs (w : World) (v : Value) : Prop := ∃ A n c, v = .slice A n c ∧ n ≤ c ∧ c ≤ maxLen ∧ ∀ i, i < n → ∃ ad b u t l m, A = some ad ∧ w.cell? (ad.add (i * 3)) = some (.bool b) ∧ w.cell? (ad.add (i * 3 + 1)) = some u ∧ w.cell? (ad.add (i * 3 + 2)) = some t ∧ IsS w .u64 u l ∧ Lt 18446744073709551616 l ∧ IsS w .u64 t m ∧ Lt 18446744073709551616 m
end Go.Proofs.Yteijlcfhenlanaa.rat
namespace Go.Proofs.Yteijlcfhenlanaa.rat
open Go.RowKit Go.Proofs.Yteijlcfhenlanaa.num Go.Proofs.Yteijlcfhenlanaa.mem Go.Proofs.Yteijlcfhenlanaa.nat Go.Proofs.Yteijlcfhenlanaa.txt Go.Proofs.Yteijlcfhenlanaa.str Go.Proofs.Yteijlcfhenlanaa.flow Go.Proofs.Yteijlcfhenlanaa.whl
set_option linter.unusedVariables false
section
variable {P : Program}
/-- What an append leaves: slices elsewhere, rows and variables elsewhere are kept. -/
def Grew (w w' : World) (v v' : Value) : Prop := Keeps w w' v v' ∧ w.grownBy w' v.ownBlock ∧ ∀ g, g < w.heap.size → v.ownBlock ≠ some g → v'.ownBlock ≠ some g
end
/-- The value is a slice of these ints. -/
def IsI (w : World) (v : Value) (l : List Int) : Prop := ∃ A c, v = .slice A l.length c ∧ l.length ≤ c ∧ c ≤ maxLen ∧ (∀ z ∈ l, -9223372036854775808 ≤ z ∧ z ≤ 9223372036854775807) ∧ ∀ (i : Nat) (z : Int), l[i]? = some z → ∃ ad, A = some ad ∧ w.cell? (ad.add i) = some (.int .i64 z)
theorem IsI.below {w w' : World} {v : Value} {l : List Int} (h : IsI w v l) (hb : Below w.heap.size w w') : IsI w' v l := by
 obtain ⟨A, c, e, h1, h2, hr, h3⟩ := h
 refine ⟨A, c, e, h1, h2, hr, fun i z hz => ?_⟩
 obtain ⟨ad, e2, c0⟩ := h3 i z hz
 exact ⟨ad, e2, (hb.cell (World.block_lt_of_cell? w _ c0)).trans c0⟩
theorem IsI.shape {w : World} {v : Value} {l : List Int} (h : IsI w v l) : ∃ A c, v = .slice A l.length c ∧ l.length ≤ c ∧ c ≤ maxLen := by
 obtain ⟨A, c, e, h1, h2, _⟩ := h
 exact ⟨A, c, e, h1, h2⟩
theorem index1_any {P : Program} {t e : TypeId} (hu : P.underlying t = some (.slice e)) (hs : (P.info? e).map (·.size) = some 1) (ad : Addr) {n c k : Nat} (hk : k < n) (w : World) : (Instr.indexAt t (.slice (some ad) n c) (.int .i64 (k : Int))).run P w = .ok (.pointer (some (ad.add k))) w := by
  cases hq : P.info? e with
  | none => simp [hq] at hs
  | some inf =>
    have hsz : inf.size = 1 := by simpa [hq] using hs
    simp [Instr.indexAt, asIntOf, go_sem, run_underlying hu, sizeOf, typeInfo, hq, hsz, hk]
/-- All of these, rising. -/
def Sorts (ss qs : List Rat) : Prop := ss.Perm qs ∧ ss.Pairwise (· ≤ ·)
theorem Sorts.len {ss qs : List Rat} (h : Sorts ss qs) : ss.length = qs.length := h.1.length_eq
/-- How many places rows have; whether all have so many; the places of one number; a product; what is turned; the table that changes nothing. -/
def wideq : List (List Rat) → Nat
 | [] => 0
 | r :: _ => r.length
def evenq (t : List (List Rat)) : Prop := ∀ r ∈ t, r.length = wideq t
/-- May it be a table: not too many rows and places, all rows of one length. -/
def mayq (t : List (List Rat)) : Prop := t.length ≤ 200 ∧ wideq t ≤ 200 ∧ evenq t
instance (t : List (List Rat)) : Decidable (evenq t) := inferInstanceAs (Decidable (∀ r ∈ t, r.length = wideq t))
instance (t : List (List Rat)) : Decidable (mayq t) := inferInstanceAs (Decidable (_ ∧ _ ∧ _))
/-- How long the numbers of a table are. -/
def lenT (t : List (List Rat)) (m : Nat) : Prop := ∀ r ∈ t, ∀ x ∈ r, lenQ x m
theorem lenT.mono {t : List (List Rat)} {m n : Nat} (h : lenT t m) (hmn : m ≤ n) : lenT t n := fun r hr x hx => (h r hr x hx).mono hmn
/-- What stands in row i, at place j. -/
def cellq (T : List (List Rat)) (i j : Nat) : Option Rat := (T[i]?).bind fun r => r[j]?
def cntR (r : List Rat) : Nat := r.countP fun q => decide (q ≠ 0)
/-- How many are no noughts. -/
def cntT (T : List (List Rat)) : Nat := (T.map cntR).sum
set_option linter.unusedSimpArgs false
/-! Sums over places. -/
def sumN : Nat → (Nat → Rat) → Rat
 | 0, _ => 0
 | n + 1, f => sumN n f + f n
theorem sumN_congr : ∀ {n : Nat} {f g : Nat → Rat}, (∀ i, i < n → f i = g i) → sumN n f = sumN n g
  | 0, _, _, _ => rfl
  | n + 1, f, g, h => by
    show sumN n f + f n = sumN n g + g n
    rw [sumN_congr (fun i hi => h i (by omega)), h n (by omega)]
theorem sumN_add : ∀ (n : Nat) (f g : Nat → Rat), sumN n (fun i => f i + g i) = sumN n f + sumN n g
  | 0, _, _ => by show (0 : Rat) = 0 + 0; grind
  | n + 1, f, g => by
    show sumN n _ + (f n + g n) = (sumN n f + f n) + (sumN n g + g n)
    rw [sumN_add n f g]; grind
theorem sumN_mul : ∀ (n : Nat) (c : Rat) (f : Nat → Rat), sumN n (fun i => c * f i) = c * sumN n f
  | 0, c, _ => by show (0 : Rat) = c * 0; grind
  | n + 1, c, f => by
    show sumN n _ + c * f n = c * (sumN n f + f n)
    rw [sumN_mul n c f]; grind
theorem sumN_zero : ∀ {n : Nat} {f : Nat → Rat}, (∀ i, i < n → f i = 0) → sumN n f = 0
  | 0, _, _ => rfl
  | n + 1, f, h => by
    show sumN n f + f n = 0
    rw [sumN_zero (fun i hi => h i (by omega)), h n (by omega)]; grind
theorem sumN_one : ∀ {n : Nat} {f : Nat → Rat} {a : Nat}, a < n → (∀ i, i < n → i ≠ a → f i = 0) → sumN n f = f a
  | 0, _, _, h, _ => by omega
  | n + 1, f, a, ha, h => by
    show sumN n f + f n = f a
    by_cases e : a = n
    · subst e
      rw [sumN_zero (fun i hi => h i (by omega) (by omega))]; grind
    · rw [sumN_one (a := a) (by omega) (fun i hi hn => h i (by omega) hn), h n (by omega) (fun e' => e e'.symm)]; grind
theorem sumN_swap : ∀ (n m : Nat) (f : Nat → Nat → Rat), sumN n (fun i => sumN m (f i)) = sumN m (fun j => sumN n (fun i => f i j))
  | 0, m, f => (sumN_zero fun _ _ => rfl).symm
  | n + 1, m, f => by
    show sumN n _ + sumN m (f n) = _
    rw [sumN_swap n m f, ← sumN_add]
    rfl
/-! Tables as functions: what they make nought, steps, that steps are one. -/
/-- Each of the n rows makes nought with x. -/
def kerF (n C : Nat) (M : Nat → Nat → Rat) (x : Nat → Rat) : Prop := ∀ i, i < n → sumN C (fun j => M i j * x j) = 0
def KerEq (n C : Nat) (M M' : Nat → Nat → Rat) : Prop := ∀ x, kerF n C M x ↔ kerF n C M' x
theorem KerEq.trans {n C : Nat} {M M' M'' : Nat → Nat → Rat} (h : KerEq n C M M') (h' : KerEq n C M' M'') : KerEq n C M M'' := fun x => (h x).trans (h' x)
theorem KerEq.symm {n C : Nat} {M M' : Nat → Nat → Rat} (h : KerEq n C M M') : KerEq n C M' M := fun x => (h x).symm
/-- Two rows changed about. -/
def swapF (M : Nat → Nat → Rat) (a b : Nat) : Nat → Nat → Rat := fun i => if i = a then M b else if i = b then M a else M i
def scaleF (M : Nat → Nat → Rat) (a : Nat) (c : Rat) : Nat → Nat → Rat := fun i j => if i = a then M i j * c else M i j
/-- Of each row so often row p is taken off. -/
def clearF (M : Nat → Nat → Rat) (p : Nat) (t : Nat → Rat) : Nat → Nat → Rat := fun i j => M i j - t i * M p j
theorem clear_sum {C : Nat} (M : Nat → Nat → Rat) (p i : Nat) (t : Nat → Rat) (x : Nat → Rat) : sumN C (fun j => clearF M p t i j * x j) = sumN C (fun j => M i j * x j) - t i * sumN C (fun j => M p j * x j) := by
 have e : sumN C (fun j => M i j * x j) - t i * sumN C (fun j => M p j * x j) = sumN C (fun j => M i j * x j) + (-(t i)) * sumN C (fun j => M p j * x j) := by grind
 rw [e, ← sumN_mul, ← sumN_add]
 refine sumN_congr fun j _ => ?_
 unfold clearF
 grind
theorem ker_clear {n C : Nat} (M : Nat → Nat → Rat) {p : Nat} {t : Nat → Rat} (hp : p < n) (ht : t p = 0) : KerEq n C M (clearF M p t) := fun x => by
 constructor
 ·intro h i hi
  rw [clear_sum, h i hi, h p hp]; grind
 ·intro h i hi
  have h0 := h p hp
  rw [clear_sum, ht] at h0
  have h1 := h i hi
  rw [clear_sum] at h1
  have h2 : sumN C (fun j => M p j * x j) = 0 := by grind
  rw [h2] at h1; grind
/-- Steps, as far as the places below at: k pivots, at p. -/
structure Ech (n at_ : Nat) (M : Nat → Nat → Rat) (k : Nat) (p : Nat → Nat) : Prop where
 le : k ≤ n
 rise : ∀ i j, i < j → j < k → p i < p j
 lt : ∀ i, i < k → p i < at_
 one : ∀ i, i < k → M i (p i) = 1
 lead : ∀ i, i < k → ∀ j, j < p i → M i j = 0
 rest : ∀ i, k ≤ i → i < n → ∀ j, j < at_ → M i j = 0
/-- From the pivot u on, each is alone in its place. -/
def Red (n : Nat) (M : Nat → Nat → Rat) (k : Nat) (p : Nat → Nat) (u : Nat) : Prop := ∀ m, u ≤ m → m < k → ∀ i, i < n → i ≠ m → M i (p m) = 0
theorem Ech.zero (n : Nat) (M : Nat → Nat → Rat) (p : Nat → Nat) : Ech n 0 M 0 p := ⟨by omega, fun _ _ _ h => by omega, fun _ h => by omega, fun _ h => by omega, fun _ h => by omega, fun _ _ _ _ h => by omega⟩
theorem Ech.skip {n a k : Nat} {M : Nat → Nat → Rat} {p : Nat → Nat} (h : Ech n a M k p) (h0 : ∀ i, k ≤ i → i < n → M i a = 0) : Ech n (a + 1) M k p :=
 ⟨h.le, h.rise, fun i hi => by have := h.lt i hi; omega, h.one, h.lead, fun i h1 h2 j hj => by
  by_cases e : j = a
  ·subst e; exact h0 i h1 h2
  ·exact h.rest i h1 h2 j (by omega)⟩
theorem Ech.swap {n a k f : Nat} {M : Nat → Nat → Rat} {p : Nat → Nat} (h : Ech n a M k p) (hf : k ≤ f) (hn : f < n) : Ech n a (swapF M k f) k p := by
 refine ⟨h.le, h.rise, h.lt, fun i hi => ?_, fun i hi j hj => ?_, fun i h1 h2 j hj => ?_⟩
 ·unfold swapF; rw [if_neg (by omega), if_neg (by omega)]; exact h.one i hi
 ·unfold swapF; rw [if_neg (by omega), if_neg (by omega)]; exact h.lead i hi j hj
 ·unfold swapF
  by_cases e : i = k
  ·rw [if_pos e]; exact h.rest f hf hn j hj
  ·rw [if_neg e]
   by_cases e2 : i = f
   ·rw [if_pos e2]; exact h.rest k (by omega) (by omega) j hj
   ·rw [if_neg e2]; exact h.rest i h1 h2 j hj
theorem Ech.scale {n a k : Nat} {M : Nat → Nat → Rat} {p : Nat → Nat} (h : Ech n a M k p) (c : Rat) : Ech n a (scaleF M k c) k p := by
 refine ⟨h.le, h.rise, h.lt, fun i hi => ?_, fun i hi j hj => ?_, fun i h1 h2 j hj => ?_⟩
 ·unfold scaleF; rw [if_neg (by omega)]; exact h.one i hi
 ·unfold scaleF; rw [if_neg (by omega)]; exact h.lead i hi j hj
 ·unfold scaleF
  by_cases e : i = k
  ·rw [if_pos e, h.rest i h1 h2 j hj]; grind
  ·rw [if_neg e]; exact h.rest i h1 h2 j hj
/-- A row with 1 at the place a is taken off those below (and others), so that they are nought there. -/
theorem Ech.clear {n a k : Nat} {M : Nat → Nat → Rat} {p : Nat → Nat} {t : Nat → Rat} (h : Ech n a M k p) (hk : k < n) (h1 : M k a = 1) (ht : t k = 0) (hb : ∀ i, k < i → i < n → t i = M i a) : Ech n (a + 1) (clearF M k t) (k + 1) (fun i => if i < k then p i else a) := by
 have z : ∀ j, j < a → M k j = 0 := fun j hj => h.rest k (by omega) hk j hj
 refine ⟨by omega, fun i j hi hj => ?_, fun i hi => ?_, fun i hi => ?_, fun i hi j hj => ?_, fun i h2 h3 j hj => ?_⟩
 ·by_cases e : j < k
  ·rw [if_pos e, if_pos (by omega)]; exact h.rise i j hi e
  ·rw [if_neg e, if_pos (by omega)]; exact h.lt i (by omega)
 ·by_cases e : i < k
  ·simp only [if_pos e]; have := h.lt i e; omega
  ·simp only [if_neg e]; omega
 ·unfold clearF
  by_cases e : i < k
  ·simp only [if_pos e]; rw [h.one i e, z _ (h.lt i e)]; grind
  ·simp only [if_neg e]
   obtain rfl : i = k := by omega
   rw [ht, h1]; grind
 ·unfold clearF
  by_cases e : i < k
  ·simp only [if_pos e] at hj
   rw [h.lead i e j hj, z j (by have := h.lt i e; omega)]; grind
  ·simp only [if_neg e] at hj
   obtain rfl : i = k := by omega
   rw [z j hj]; grind
 ·unfold clearF
  by_cases e : j = a
  ·subst e
   rw [hb i (by omega) h3, h1]; grind
  ·rw [h.rest i (by omega) h3 j (by omega), z j (by omega)]; grind
/-- Upward: those above a pivot are cleared. -/
theorem Ech.up {n a k m : Nat} {M : Nat → Nat → Rat} {p : Nat → Nat} {t : Nat → Rat} (h : Ech n a M k p) (hm : m < k) (ht : ∀ i, m ≤ i → t i = 0) : Ech n a (clearF M m t) k p := by
 have z : ∀ i j, i < m → j ≤ p i → M m j = 0 := fun i j hi hj => h.lead m hm j (by have := h.rise i m hi hm; omega)
 refine ⟨h.le, h.rise, h.lt, fun i hi => ?_, fun i hi j hj => ?_, fun i h1 h2 j hj => ?_⟩
 ·unfold clearF
  by_cases e : i < m
  ·rw [h.one i hi, z i _ e (Nat.le_refl _)]; grind
  ·rw [h.one i hi, ht i (by omega)]; grind
 ·unfold clearF
  by_cases e : i < m
  ·rw [h.lead i hi j hj, z i j e (by omega)]; grind
  ·rw [h.lead i hi j hj, ht i (by omega)]; grind
 ·unfold clearF
  rw [h.rest i h1 h2 j hj, ht i (by omega)]; grind
theorem Red.up {n a k m : Nat} {M : Nat → Nat → Rat} {p : Nat → Nat} {t : Nat → Rat} (h : Red n M k p (m + 1)) (he : Ech n a M k p) (hm : m < k) (ht : ∀ i, m ≤ i → t i = 0) (hb : ∀ i, i < m → t i = M i (p m)) : Red n (clearF M m t) k p m := fun q h1 h2 i h3 h4 => by
 have hle := he.le
 unfold clearF
 by_cases e : q = m
 ·subst e
  by_cases e2 : i < q
  ·rw [hb i e2, he.one q hm]; grind
  ·rw [ht i (by omega)]
   by_cases e3 : i < k
   ·rw [he.lead i e3 _ (he.rise q i (by omega) e3)]; grind
   ·rw [he.rest i (by omega) h3 _ (he.lt q hm)]; grind
 ·rw [h q (by omega) h2 i h3 h4, h q (by omega) h2 m (by omega) (by omega)]; grind
/-- The row with 1 at the place j, that is nought at other places that are no pivots. -/
def nv (M : Nat → Nat → Rat) (k : Nat) (p : Nat → Nat) (j : Nat) : Nat → Rat := fun c => if c = j then 1 else -(sumN k (fun i => if p i = c then M i j else 0))
theorem Ech.inj {n a k : Nat} {M : Nat → Nat → Rat} {p : Nat → Nat} (h : Ech n a M k p) {i j : Nat} (hi : i < k) (hj : j < k) (e : p i = p j) : i = j := by
 rcases Nat.lt_trichotomy i j with hl | hl | hl
 ·have := h.rise i j hl hj; omega
 ·exact hl
 ·have := h.rise j i hl hi; omega
theorem nv_piv {n a k : Nat} {M : Nat → Nat → Rat} {p : Nat → Nat} (h : Ech n a M k p) {i j : Nat} (hi : i < k) (hne : p i ≠ j) : nv M k p j (p i) = - M i j := by
 unfold nv
 rw [if_neg hne, sumN_one (a := i) hi (fun m hm hn => if_neg fun e => hn (h.inj hm hi e)), if_pos rfl]
theorem nv_free {M : Nat → Nat → Rat} {k : Nat} {p : Nat → Nat} {j c : Nat} (hc : c ≠ j) (hf : ∀ i, i < k → p i ≠ c) : nv M k p j c = 0 := by
 unfold nv
 rw [if_neg hc, sumN_zero (fun i hi => if_neg (hf i hi))]; grind
theorem nv_behind {n a k : Nat} {M : Nat → Nat → Rat} {p : Nat → Nat} (h : Ech n a M k p) {j c : Nat} (hc : j < c) : nv M k p j c = 0 := by
 by_cases hp : ∃ m, m < k ∧ p m = c
 ·obtain ⟨m, hm, rfl⟩ := hp
  rw [nv_piv h hm (by omega), h.lead m hm j hc]; grind
 ·exact nv_free (by omega) (fun m hm e2 => hp ⟨m, hm, e2⟩)
/-! What each change of rows does to a number that is made of a table; determinants by the first row. -/
def addF (M : Nat → Nat → Rat) (a b : Nat) (t : Rat) : Nat → Nat → Rat := fun i j => if i = a then M i j - t * M b j else M i j
structure RowFn (n C : Nat) (f : (Nat → Nat → Rat) → Rat) : Prop where
 congr : ∀ M M', (∀ i j, i < n → j < C → M i j = M' i j) → f M = f M'
 scale : ∀ M a c, a < n → f (scaleF M a c) = c * f M
 add : ∀ M a b t, a < n → b < n → a ≠ b → f (addF M a b t) = f M
theorem RowFn.zero {n C : Nat} {f : (Nat → Nat → Rat) → Rat} (h : RowFn n C f) {M : Nat → Nat → Rat} {a : Nat} (ha : a < n) (h0 : ∀ j, j < C → M a j = 0) : f M = 0 := by
 have h1 := h.scale M a 0 ha
 rw [h.congr (scaleF M a 0) M (fun i j hi hj => by
  unfold scaleF
  by_cases e : i = a
  ·rw [if_pos e, e, h0 j hj]; grind
  ·rw [if_neg e])] at h1
 rw [h1]; grind
theorem RowFn.clear {n C : Nat} {f : (Nat → Nat → Rat) → Rat} (h : RowFn n C f) (M : Nat → Nat → Rat) {p : Nat} {t : Nat → Rat} (hp : p < n) (ht : t p = 0) : f (clearF M p t) = f M := by
  have key : ∀ m, m ≤ n → f (fun i j => if i < m then clearF M p t i j else M i j) = f M := by
    intro m
    induction m with
    | zero => intro _; exact h.congr _ _ fun i j _ _ => if_neg (by omega)
    | succ m ih =>
      intro hm
      rw [← ih (by omega)]
      by_cases e : m = p
      · refine h.congr _ _ fun i j hi hj => ?_
        by_cases e1 : i < m
        · simp only [if_pos e1, if_pos (show i < m + 1 by omega)]
        · by_cases e2 : i = m
          · subst e2
            simp only [if_neg e1, if_pos (show i < i + 1 by omega)]
            unfold clearF
            rw [e, ht]; grind
          · simp only [if_neg e1, if_neg (show ¬ i < m + 1 by omega)]
      · rw [← h.add (fun i j => if i < m then clearF M p t i j else M i j) m p (t m) (by omega) hp e]
        refine h.congr _ _ fun i j hi hj => ?_
        unfold addF
        by_cases e2 : i = m
        · subst e2
          simp only [if_pos (show i < i + 1 by omega), if_neg (show ¬ i < i by omega)]
          by_cases e3 : p < i
          · simp only [if_pos e3]
            unfold clearF
            rw [ht]; grind
          · simp only [if_neg e3]
            rfl
        · simp only [if_neg e2]
          by_cases e1 : i < m
          · simp only [if_pos e1, if_pos (show i < m + 1 by omega)]
          · simp only [if_neg e1, if_neg (show ¬ i < m + 1 by omega)]
  rw [← key n (Nat.le_refl _)]
  exact h.congr _ _ fun i j hi _ => (if_pos hi).symm
theorem RowFn.swap {n C : Nat} {f : (Nat → Nat → Rat) → Rat} (h : RowFn n C f) (M : Nat → Nat → Rat) {a b : Nat} (ha : a < n) (hb : b < n) (hab : a ≠ b) : f (swapF M a b) = - f M := by
 have e1 := h.add M a b (-1) ha hb hab
 have e2 := h.add (addF M a b (-1)) b a 1 hb ha (fun e => hab e.symm)
 have e3 := h.add (addF (addF M a b (-1)) b a 1) a b (-1) ha hb hab
 have e4 := h.scale (addF (addF (addF M a b (-1)) b a 1) a b (-1)) b (-1) hb
 have e5 : f (swapF M a b) = f (scaleF (addF (addF (addF M a b (-1)) b a 1) a b (-1)) b (-1)) := h.congr _ _ fun i j hi hj => by
  have hba : b ≠ a := fun e => hab e.symm
  unfold swapF scaleF addF
  by_cases k1 : i = a
  ·subst k1
   simp only [if_neg hab, if_neg hba]
   grind
  ·by_cases k2 : i = b
   ·subst k2
    simp only [if_neg hba]
    grind
   ·simp only [if_neg k1, if_neg k2]
 rw [e5, e4, e3, e2, e1]; grind
def skipN (j c : Nat) : Nat := if c < j then c else c + 1
def unskN (a b : Nat) : Nat := if b < a then b else b - 1
def sgN (j : Nat) : Rat := if j % 2 = 0 then 1 else -1
def minF (M : Nat → Nat → Rat) (j : Nat) : Nat → Nat → Rat := fun i c => M (i + 1) (skipN j c)
def detF : Nat → (Nat → Nat → Rat) → Rat
 | 0, _ => 1
 | n + 1, M => sumN (n + 1) (fun j => sgN j * M 0 j * detF n (minF M j))
theorem skipN_lt {j c n : Nat} (hc : c < n) : skipN j c < n + 1 := by unfold skipN; split <;> omega
theorem skipN_ne (j c : Nat) : skipN j c ≠ j := by unfold skipN; split <;> omega
theorem unsk_skip (a l : Nat) : unskN a (skipN a l) = l := by
 unfold unskN skipN
 by_cases h : l < a
 ·rw [if_pos h, if_pos h]
 ·rw [if_neg h, if_neg (by omega)]; omega
theorem skip_skip {a b : Nat} (h : a < b) (c : Nat) : skipN a (skipN (b - 1) c) = skipN b (skipN a c) := by
 unfold skipN
 by_cases h1 : c < a
 ·simp only [if_pos h1, if_pos (show c < b - 1 by omega), if_pos (show c < b by omega)]
 ·by_cases h2 : c < b - 1
  ·simp only [if_neg h1, if_pos h2, if_pos (show c + 1 < b by omega)]
  ·simp only [if_neg h1, if_neg h2, if_neg (show ¬ c + 1 < a by omega), if_neg (show ¬ c + 1 < b by omega)]
theorem sgN_pred {b : Nat} (h : 0 < b) : sgN (b - 1) = - sgN b := by
 unfold sgN
 by_cases h1 : b % 2 = 0
 ·rw [if_pos h1, if_neg (by omega)]
 ·rw [if_neg h1, if_pos (by omega)]; grind
theorem detF_congr : ∀ (n : Nat) {M M' : Nat → Nat → Rat}, (∀ i j, i < n → j < n → M i j = M' i j) → detF n M = detF n M'
  | 0, _, _, _ => rfl
  | n + 1, M, M', h => sumN_congr fun j hj => by
    rw [h 0 j (by omega) hj, detF_congr n (M := minF M j) (M' := minF M' j) (fun i c hi hc => h (i + 1) _ (by omega) (skipN_lt hc))]
theorem detF_lin : ∀ (n : Nat) {M M1 M2 : Nat → Nat → Rat} (a : Nat) (x y : Rat), a < n → (∀ j, j < n → M a j = x * M1 a j + y * M2 a j) → (∀ i j, i < n → j < n → i ≠ a → M i j = M1 i j ∧ M i j = M2 i j) → detF n M = x * detF n M1 + y * detF n M2
  | 0, _, _, _, _, _, _, h, _, _ => by omega
  | n + 1, M, M1, M2, 0, x, y, _, h1, h2 => by
    show sumN _ _ = x * sumN _ _ + y * sumN _ _
    rw [← sumN_mul, ← sumN_mul, ← sumN_add]
    refine sumN_congr fun j hj => ?_
    rw [h1 j hj, detF_congr n (M := minF M j) (M' := minF M1 j) (fun i c hi hc => (h2 (i + 1) _ (by omega) (skipN_lt hc) (by omega)).1), detF_congr n (M := minF M2 j) (M' := minF M1 j) (fun i c hi hc => by
      have := h2 (i + 1) (skipN j c) (by omega) (skipN_lt hc) (by omega)
      exact this.2.symm.trans this.1)]
    grind
  | n + 1, M, M1, M2, a + 1, x, y, ha, h1, h2 => by
    show sumN _ _ = x * sumN _ _ + y * sumN _ _
    rw [← sumN_mul, ← sumN_mul, ← sumN_add]
    refine sumN_congr fun j hj => ?_
    rw [detF_lin n (M := minF M j) (M1 := minF M1 j) (M2 := minF M2 j) a x y (by omega) (fun c hc => h1 _ (skipN_lt hc)) (fun i c hi hc hne => h2 (i + 1) _ (by omega) (skipN_lt hc) (by omega)), ← (h2 0 j (by omega) hj (by omega)).1, ← (h2 0 j (by omega) hj (by omega)).2]
    grind
theorem sum_skip : ∀ (n j : Nat) (F : Nat → Rat), j < n + 1 → sumN n (fun l => F (skipN j l)) + F j = sumN (n + 1) F
  | 0, j, F, h => by
    obtain rfl : j = 0 := by omega
    rfl
  | n + 1, j, F, h => by
    show (sumN n _ + F (skipN j n)) + F j = sumN (n + 1) F + F (n + 1)
    by_cases e : j = n + 1
    · subst e
      have h1 : sumN n (fun l => F (skipN (n + 1) l)) = sumN n F := sumN_congr fun l hl => by unfold skipN; rw [if_pos (by omega)]
      rw [h1]
      unfold skipN
      rw [if_pos (by omega)]
      rfl
    · have h1 := sum_skip n j F (by omega)
      rw [← h1]
      have h2 : skipN j n = n + 1 := by unfold skipN; rw [if_neg (by omega)]
      rw [h2]; grind
/-- What stands with two places of the first two rows. -/
def twoG (n : Nat) (M : Nat → Nat → Rat) (a b : Nat) : Rat := if b = a then 0 else sgN a * sgN (unskN a b) * detF n (fun i c => M (i + 2) (skipN a (skipN (unskN a b) c)))
theorem twoG_anti (n : Nat) (M : Nat → Nat → Rat) (a b : Nat) : twoG n M b a = - twoG n M a b := by
 have main : ∀ a b, a < b → twoG n M b a = - twoG n M a b := by
  intro a b h
  unfold twoG
  rw [if_neg (by omega), if_neg (by omega)]
  have e1 : unskN b a = a := if_pos h
  have e2 : unskN a b = b - 1 := if_neg (by omega)
  rw [e1, e2, sgN_pred (by omega), detF_congr n (M := fun i c => M (i + 2) (skipN a (skipN (b - 1) c))) (M' := fun i c => M (i + 2) (skipN b (skipN a c))) (fun i c _ _ => by rw [skip_skip h])]
  grind
 rcases Nat.lt_trichotomy a b with h | h | h
 ·exact main a b h
 ·subst h; unfold twoG; rw [if_pos rfl]; grind
 ·have := main b a h
  rw [this]; grind
theorem detF_two (n : Nat) (M : Nat → Nat → Rat) : detF (n + 2) M = sumN (n + 2) (fun j => sumN (n + 2) (fun b => M 0 j * M 1 b * twoG n M j b)) := by
 show sumN (n + 2) _ = _
 refine sumN_congr fun j hj => ?_
 show sgN j * M 0 j * sumN (n + 1) _ = _
 rw [← sum_skip (n + 1) j _ hj, ← sumN_mul]
 have h0 : twoG n M j j = 0 := if_pos rfl
 simp only [h0]
 rw [show M 0 j * M 1 j * 0 = 0 by grind, Rat.add_zero]
 refine sumN_congr fun l hl => ?_
 unfold twoG
 rw [if_neg (skipN_ne j l), unsk_skip]
 show sgN j * M 0 j * (sgN l * M 1 (skipN j l) * detF n (fun i c => M (i + 2) (skipN j (skipN l c)))) = _
 grind
theorem detF_swap01 (n : Nat) (M : Nat → Nat → Rat) : detF (n + 2) (swapF M 0 1) = - detF (n + 2) M := by
 rw [detF_two, detF_two, sumN_swap]
 have e : - sumN (n + 2) (fun j => sumN (n + 2) (fun b => M 0 j * M 1 b * twoG n M j b)) = (-1) * sumN (n + 2) (fun j => sumN (n + 2) (fun b => M 0 j * M 1 b * twoG n M j b)) := by grind
 rw [e, ← sumN_mul]
 refine sumN_congr fun j hj => ?_
 rw [← sumN_mul]
 refine sumN_congr fun b hb => ?_
 have e0 : swapF M 0 1 0 b = M 1 b := rfl
 have e1 : swapF M 0 1 1 j = M 0 j := rfl
 have e2 : twoG n (swapF M 0 1) b j = twoG n M b j := rfl
 rw [e0, e1, e2, twoG_anti n M j b]; grind
theorem detF_adj : ∀ (i n : Nat) (M : Nat → Nat → Rat), i + 1 < n → detF n (swapF M i (i + 1)) = - detF n M
  | 0, 0, _, h => by omega
  | 0, 1, _, h => by omega
  | 0, n + 2, M, _ => detF_swap01 n M
  | i + 1, 0, _, h => by omega
  | i + 1, n + 1, M, h => by
    show sumN _ _ = - sumN _ _
    have e : - sumN (n + 1) (fun j => sgN j * M 0 j * detF n (minF M j)) = (-1) * sumN (n + 1) (fun j => sgN j * M 0 j * detF n (minF M j)) := by grind
    rw [e, ← sumN_mul]
    refine sumN_congr fun j hj => ?_
    have e0 : swapF M (i + 1) (i + 1 + 1) 0 j = M 0 j := by unfold swapF; rw [if_neg (by omega), if_neg (by omega)]
    have e1 : minF (swapF M (i + 1) (i + 1 + 1)) j = swapF (minF M j) i (i + 1) := by
      funext r c
      unfold minF swapF
      by_cases k1 : r = i
      · rw [if_pos (by omega), if_pos k1]
      · by_cases k2 : r = i + 1
        · rw [if_neg (by omega), if_pos (by omega), if_neg k1, if_pos k2]
        · rw [if_neg (by omega), if_neg (by omega), if_neg k1, if_neg k2]
    rw [e0, e1, detF_adj i n (minF M j) (by omega)]; grind
theorem detF_same : ∀ (d a n : Nat) (M : Nat → Nat → Rat), a + d + 1 < n → (∀ j, j < n → M a j = M (a + d + 1) j) → detF n M = 0
  | 0, a, n, M, h, he => by
    have h1 := detF_adj a n M h
    rw [detF_congr n (M := swapF M a (a + 1)) (M' := M) (fun i j hi hj => by
      unfold swapF
      by_cases k1 : i = a
      · rw [if_pos k1, k1]; exact (he j hj).symm
      · by_cases k2 : i = a + 1
        · rw [if_neg k1, if_pos k2, k2]; exact he j hj
        · rw [if_neg k1, if_neg k2])] at h1
    grind
  | d + 1, a, n, M, h, he => by
    have h1 := detF_adj (a + d + 1) n M (by omega)
    have h2 := detF_same d a n (swapF M (a + d + 1) (a + d + 1 + 1)) (by omega) (fun j hj => by
      unfold swapF
      rw [if_neg (by omega), if_neg (by omega), if_pos rfl]
      exact he j hj)
    rw [h2] at h1
    grind
theorem detF_row (n : Nat) : RowFn n n (detF n) := by
 refine ⟨fun M M' h => detF_congr n h, fun M a c ha => ?_, fun M a b t ha hb hab => ?_⟩
 ·have h := detF_lin n (M := scaleF M a c) (M1 := M) (M2 := M) a c 0 ha (fun j _ => by unfold scaleF; rw [if_pos rfl]; grind) (fun i j _ _ hne => by unfold scaleF; rw [if_neg hne]; exact ⟨rfl, rfl⟩)
  rw [h]; grind
 ·have h := detF_lin n (M := addF M a b t) (M1 := M) (M2 := fun i j => if i = a then M b j else M i j) a 1 (-t) ha (fun j _ => by unfold addF; rw [if_pos rfl, if_pos rfl]; grind) (fun i j _ _ hne => by unfold addF; rw [if_neg hne, if_neg hne]; exact ⟨rfl, rfl⟩)
  have h0 : detF n (fun i j => if i = a then M b j else M i j) = 0 := by
   rcases Nat.lt_or_gt_of_ne hab with hl | hl
   ·refine detF_same (b - a - 1) a n _ (by omega) (fun j _ => ?_)
    rw [show a + (b - a - 1) + 1 = b by omega, if_pos rfl, if_neg (fun e => hab e.symm)]
   ·refine detF_same (a - b - 1) b n _ (by omega) (fun j _ => ?_)
    rw [show b + (a - b - 1) + 1 = a by omega, if_pos rfl, if_neg (fun e => hab e.symm)]
  rw [h, h0]; grind
def idF : Nat → Nat → Rat := fun i j => if i = j then 1 else 0
theorem detF_id : ∀ n, detF n idF = 1
  | 0 => rfl
  | n + 1 => by
    show sumN (n + 1) _ = 1
    rw [sumN_one (a := 0) (by omega) (fun j _ hne => by
      have : idF 0 j = 0 := if_neg (fun e => hne e.symm)
      rw [this]; grind)]
    have e : minF idF 0 = idF := by
      funext i c
      have e0 : skipN 0 c = c + 1 := if_neg (by omega)
      unfold minF
      rw [e0]
      unfold idF
      by_cases k : i = c
      · rw [if_pos k, if_pos (by omega)]
      · rw [if_neg k, if_neg (by omega)]
    rw [e, detF_id n]
    show sgN 0 * 1 * 1 = 1
    unfold sgN
    grind
def mulF (n : Nat) (M B : Nat → Nat → Rat) : Nat → Nat → Rat := fun i j => sumN n (fun l => M i l * B l j)
theorem detF_mul_row (n : Nat) (B : Nat → Nat → Rat) : RowFn n n (fun M => detF n (mulF n M B)) := by
 have hd := detF_row n
 refine ⟨fun M M' h => hd.congr _ _ fun i j hi hj => sumN_congr fun l hl => by rw [h i l hi hl], fun M a c ha => ?_, fun M a b t ha hb hab => ?_⟩
 ·rw [← hd.scale _ a c ha]
  refine hd.congr _ _ fun i j hi hj => ?_
  unfold mulF scaleF
  by_cases e : i = a
  ·simp only [if_pos e]
   rw [show sumN n (fun l => M i l * B l j) * c = c * sumN n (fun l => M i l * B l j) by grind, ← sumN_mul]
   exact sumN_congr fun l _ => by grind
  ·simp only [if_neg e]
 ·rw [← hd.add (mulF n M B) a b t ha hb hab]
  refine hd.congr _ _ fun i j hi hj => ?_
  unfold mulF addF
  by_cases e : i = a
  ·simp only [if_pos e]
   rw [show sumN n (fun l => M i l * B l j) - t * sumN n (fun l => M b l * B l j) = sumN n (fun l => M i l * B l j) + (-t) * sumN n (fun l => M b l * B l j) by grind, ← sumN_mul, ← sumN_add]
   exact sumN_congr fun l _ => by grind
  ·simp only [if_neg e]
theorem mulF_id (n : Nat) (B : Nat → Nat → Rat) {i j : Nat} (hi : i < n) : mulF n idF B i j = B i j := by
 unfold mulF
 rw [sumN_one (a := i) hi (fun l _ hne => by
  have : idF i l = 0 := if_neg (fun e => hne e.symm)
  rw [this]; grind)]
 have : idF i i = 1 := if_pos rfl
 rw [this]; grind
theorem Ech.full {n k : Nat} {M : Nat → Nat → Rat} {p : Nat → Nat} (h : Ech n n M k p) (hk : k = n) {i : Nat} (hi : i < n) : p i = i := by
  subst hk
  have a1 : ∀ i, i < k → i ≤ p i := by
    intro i
    induction i with
    | zero => intro _; omega
    | succ i ih =>
      intro hi
      have := ih (by omega)
      have := h.rise i (i + 1) (by omega) hi
      omega
  have a2 : ∀ d i, i + d + 1 = k → p i ≤ i := by
    intro d
    induction d with
    | zero => intro i e; have := h.lt i (by omega); omega
    | succ d ih =>
      intro i e
      have := ih (i + 1) (by omega)
      have := h.rise i (i + 1) (by omega) (by omega)
      omega
  have := a1 i hi
  have := a2 (k - i - 1) i (by omega)
  omega
/-- With as many pivots as rows, a number that turns as determinants do is that of what changes nothing. -/
theorem RowFn.unit {n k : Nat} {f : (Nat → Nat → Rat) → Rat} (h : RowFn n n f) {p : Nat → Nat} (hk : k = n) : ∀ (m : Nat) (M : Nat → Nat → Rat), m ≤ k → Ech n n M k p → Red n M k p m → f M = f idF
  | 0, M, _, he, hr => h.congr _ _ fun i j hi hj => by
    have hp := he.full hk hj
    by_cases e : i = j
    · subst e
      have := he.one i (by omega)
      rw [hp] at this
      rw [this]; exact (if_pos rfl).symm
    · have := hr j (by omega) (by omega) i hi e
      rw [hp] at this
      rw [this]; exact (if_neg e).symm
  | m + 1, M, hm, he, hr => by
    obtain ⟨t, ht⟩ : ∃ t : Nat → Rat, t = fun i => if i < m then M i (p m) else 0 := ⟨_, rfl⟩
    have h1 : ∀ i, m ≤ i → t i = 0 := fun i hi => by rw [ht]; exact if_neg (by omega)
    have h2 : ∀ i, i < m → t i = M i (p m) := fun i hi => by rw [ht]; exact if_pos hi
    rw [← h.clear M (p := m) (t := t) (by omega) (h1 m (Nat.le_refl _))]
    exact RowFn.unit h hk m _ (by omega) (he.up (by omega) h1) (hr.up he (by omega) h1 h2)
theorem RowFn.steps {n k : Nat} {f : (Nat → Nat → Rat) → Rat} (h : RowFn n n f) {M : Nat → Nat → Rat} {p : Nat → Nat} (he : Ech n n M k p) : f M = if k = n then f idF else 0 := by
 by_cases hk : k = n
 ·rw [if_pos hk]
  exact h.unit hk k M (Nat.le_refl _) he (fun m h1 h2 => by omega)
 ·rw [if_neg hk]
  have := he.le
  exact h.zero (a := k) (by omega) (fun j hj => he.rest k (Nat.le_refl _) (by omega) j hj)
theorem ech_ex (n : Nat) (M : Nat → Nat → Rat) : ∀ a, a ≤ n → ∃ (c : Rat) (E : Nat → Nat → Rat) (k : Nat) (p : Nat → Nat), Ech n a E k p ∧ ∀ f, RowFn n n f → f M = c * f E
  | 0, _ => ⟨1, M, 0, id, Ech.zero n M id, fun f _ => by grind⟩
  | a + 1, ha => by
    obtain ⟨c, E, k, p, hE, hf⟩ := ech_ex n M a (by omega)
    by_cases h0 : ∀ i, k ≤ i → i < n → E i a = 0
    · exact ⟨c, E, k, p, hE.skip h0, hf⟩
    · obtain ⟨i, hi, hin, hne⟩ : ∃ i, k ≤ i ∧ i < n ∧ E i a ≠ 0 := Classical.byContradiction fun h => h0 fun i h1 h2 => Classical.byContradiction fun h3 => h ⟨i, h1, h2, h3⟩
      obtain ⟨c1, E1, hE1, hf1, hne1⟩ : ∃ (c1 : Rat) (E1 : Nat → Nat → Rat), Ech n a E1 k p ∧ (∀ f, RowFn n n f → f M = c1 * f E1) ∧ E1 k a ≠ 0 := by
        by_cases e : k = i
        · subst e; exact ⟨c, E, hE, hf, hne⟩
        · refine ⟨-c, swapF E k i, hE.swap hi hin, fun f h => ?_, ?_⟩
          · rw [hf f h, h.swap E (by omega) hin e]; grind
          · unfold swapF; rw [if_pos rfl]; exact hne
      have hk : k < n := by omega
      have hE2 := hE1.scale (E1 k a)⁻¹
      have h1 : scaleF E1 k (E1 k a)⁻¹ k a = 1 := by unfold scaleF; rw [if_pos rfl]; exact Rat.mul_inv_cancel _ hne1
      have hE3 := hE2.clear (t := fun i => if i = k then 0 else scaleF E1 k (E1 k a)⁻¹ i a) hk h1 (if_pos rfl) (fun i hki _ => if_neg (by omega))
      refine ⟨c1 * E1 k a, _, _, _, hE3, fun f h => ?_⟩
      rw [h.clear _ hk (if_pos rfl), h.scale _ _ _ hk, hf1 f h]
      have := Rat.mul_inv_cancel _ hne1
      grind
/-- A row function is the determinant times what it gives of 1. -/
theorem rowFn_det {n : Nat} {f : (Nat → Nat → Rat) → Rat} (h : RowFn n n f) (M : Nat → Nat → Rat) : f M = detF n M * f idF := by
 obtain ⟨c, E, k, p, hE, hf⟩ := ech_ex n M n (Nat.le_refl n)
 rw [hf f h, hf _ (detF_row n), h.steps hE, (detF_row n).steps hE, detF_id]
 split <;> grind
theorem detF_mul (n : Nat) (M B : Nat → Nat → Rat) : detF n (mulF n M B) = detF n M * detF n B := by
 have h := rowFn_det (detF_mul_row n B) M
 have e : detF n (mulF n idF B) = detF n B := detF_congr n fun i j hi _ => mulF_id n B hi
 rw [← e]; exact h
/-- One place put in another's stead. -/
def colF (M : Nat → Nat → Rat) (c : Nat) (v : Nat → Rat) : Nat → Nat → Rat := fun i j => if j = c then v i else M i j
theorem detF_idcol (n c : Nat) (v : Nat → Rat) (hc : c < n) : detF n (colF idF c v) = v c := by
 have hd := detF_row n
 by_cases h0 : v c = 0
 ·rw [hd.zero hc (fun j _ => by
   unfold colF idF
   by_cases e : j = c
   ·rw [if_pos e, h0]
   ·rw [if_neg e, if_neg (fun h => e h.symm)]), h0]
 ·have h1 := hd.clear (colF idF c v) (p := c) (t := fun i => if i = c then 0 else v i * (v c)⁻¹) hc (if_pos rfl)
  have h2 := hd.scale idF c (v c) hc
  have hi := Rat.mul_inv_cancel _ h0
  rw [← h1, hd.congr _ (scaleF idF c (v c)) (fun i j hi' hj => ?_), h2, detF_id]
  ·grind
  ·unfold clearF colF scaleF idF
   by_cases e1 : i = c <;> by_cases e2 : j = c
   ·subst e1; subst e2; simp; grind
   ·subst e1; simp only [if_true, if_neg e2, if_neg (fun h : i = j => e2 h.symm)]; grind
   ·subst e2; simp only [if_neg e1, if_true]; grind
   ·simp only [if_neg e1, if_neg e2, if_neg (show ¬ c = j from fun h => e2 h.symm)]; grind
/-- Where a place is the others' sum, each times a number. -/
theorem detF_col (n : Nat) (M : Nat → Nat → Rat) (c : Nat) (v : Nat → Rat) (hc : c < n) : detF n (colF M c (fun i => sumN n (fun l => M i l * v l))) = v c * detF n M := by
 have h := detF_mul n M (colF idF c v)
 rw [detF_idcol n c v hc] at h
 rw [show v c * detF n M = detF n M * v c by grind, ← h]
 refine detF_congr n fun i j hi hj => ?_
 unfold colF mulF
 by_cases e : j = c
 ·simp only [if_pos e]
 ·simp only [if_neg e]
  rw [sumN_one (a := j) hj (fun l _ hne => by unfold idF; rw [if_neg hne]; grind)]
  unfold idF; rw [if_pos rfl]; grind
/-- The last place is nought but in the last row. -/
theorem detF_edge (k : Nat) (M : Nat → Nat → Rat) (h : ∀ i, i < k → M i k = 0) : detF (k + 1) M = detF k M * M k k := by
  have hd := detF_row (k + 1)
  have hR : RowFn k k (fun L => detF (k + 1) (fun i j => if i < k then (if j < k then L i j else 0) else M i j)) := by
    refine ⟨fun L L' hL => hd.congr _ _ fun i j hi hj => ?_, fun L a c ha => ?_, fun L a b t ha hb hab => ?_⟩
    · by_cases e : i < k
      · by_cases e2 : j < k
        · rw [if_pos e, if_pos e, if_pos e2, if_pos e2, hL i j e e2]
        · rw [if_pos e, if_pos e, if_neg e2, if_neg e2]
      · rw [if_neg e, if_neg e]
    · rw [← hd.scale _ a c (by omega)]
      refine hd.congr _ _ fun i j hi hj => ?_
      unfold scaleF
      by_cases e : i = a
      · subst e; simp only [if_pos ha, if_true]; split <;> grind
      · simp only [if_neg e]
    · rw [← hd.add (fun i j => if i < k then (if j < k then L i j else 0) else M i j) a b t (by omega) (by omega) hab]
      refine hd.congr _ _ fun i j hi hj => ?_
      unfold addF
      by_cases e : i = a
      · subst e; simp only [if_pos ha, if_pos hb, if_true]; split <;> grind
      · simp only [if_neg e]
  have h1 := rowFn_det hR M
  have h2 : detF (k + 1) (fun i j => if i < k then (if j < k then M i j else 0) else M i j) = detF (k + 1) M := hd.congr _ _ fun i j hi hj => by
    by_cases e : i < k
    · by_cases e2 : j < k
      · rw [if_pos e, if_pos e2]
      · obtain rfl : j = k := by omega
        rw [if_pos e, if_neg e2, h i e]
    · rw [if_neg e]
  have key : ∀ m, m ≤ k → detF (k + 1) (fun i j => if i < k then idF i j else if j < m then 0 else M k j) = detF (k + 1) (fun i j => if i < k then idF i j else M k j) := by
    intro m
    induction m with
    | zero => intro _; exact hd.congr _ _ fun i j _ _ => by split <;> simp
    | succ m ih =>
      intro hm
      rw [← ih (by omega), ← hd.add (fun i j => if i < k then idF i j else if j < m then 0 else M k j) k m (M k m) (by omega) (by omega) (by omega)]
      refine hd.congr _ _ fun i j hi hj => ?_
      unfold addF
      by_cases e : i = k
      · subst e
        simp only [if_neg (Nat.lt_irrefl i), if_true, if_pos (show m < i by omega)]
        unfold idF
        by_cases e2 : j < m
        · rw [if_pos (by omega), if_pos e2, if_neg (by omega)]; grind
        · by_cases e3 : j = m
          · subst e3; rw [if_pos (by omega), if_neg e2, if_pos rfl]; grind
          · rw [if_neg (by omega), if_neg e2, if_neg (fun h => e3 h.symm)]; grind
      · simp only [if_neg e, if_pos (show i < k by omega)]
  have h3 : detF (k + 1) (fun i j => if i < k then (if j < k then idF i j else 0) else M i j) = M k k := by
    have e1 := key k (Nat.le_refl k)
    have e2 := hd.scale idF k (M k k) (by omega)
    rw [hd.congr _ (fun i j => if i < k then idF i j else M k j) (fun i j hi hj => ?_), ← e1, hd.congr _ (scaleF idF k (M k k)) (fun i j hi hj => ?_), e2, detF_id]
    · grind
    · unfold scaleF idF
      by_cases e : i < k
      · rw [if_pos e, if_neg (show ¬ i = k by omega)]
      · obtain rfl : i = k := by omega
        rw [if_neg e]
        by_cases e3 : j < i
        · rw [if_pos e3, if_pos rfl, if_neg (by omega)]; grind
        · obtain rfl : j = i := by omega
          rw [if_neg e3, if_pos rfl, if_pos rfl]; grind
    · by_cases e : i < k
      · rw [if_pos e, if_pos e]
        by_cases e2 : j < k
        · rw [if_pos e2]
        · rw [if_neg e2]; unfold idF; rw [if_neg (by omega)]
      · obtain rfl : i = k := by omega
        rw [if_neg e, if_neg e]
  have h4 := h1
  simp only [h2, h3] at h4
  exact h4
/-! Whole numbers. -/
def qF (a : Nat → Nat → Int) : Nat → Nat → Rat := fun i j => (a i j : Rat)
theorem sumN_int (n : Nat) (f : Nat → Rat) (h : ∀ i, i < n → ∃ z : Int, f i = (z : Rat)) : ∃ z : Int, sumN n f = (z : Rat) := by
  induction n with
  | zero => exact ⟨0, rfl⟩
  | succ n ih =>
    obtain ⟨x, hx⟩ := ih fun i hi => h i (by omega)
    obtain ⟨y, hy⟩ := h n (by omega)
    exact ⟨x + y, by show sumN n f + f n = _; rw [hx, hy, Rat.intCast_add]⟩
theorem detF_int : ∀ (n : Nat) (M : Nat → Nat → Rat), (∀ i j, i < n → j < n → ∃ z : Int, M i j = (z : Rat)) → ∃ z : Int, detF n M = (z : Rat)
  | 0, _, _ => ⟨1, rfl⟩
  | n + 1, M, h => sumN_int _ _ fun j hj => by
    obtain ⟨x, hx⟩ := h 0 j (by omega) hj
    obtain ⟨y, hy⟩ := detF_int n (minF M j) fun i c hi hc => h _ _ (by omega) (skipN_lt hc)
    obtain ⟨s, hs⟩ : ∃ s : Int, sgN j = (s : Rat) := by
      unfold sgN
      split
      · exact ⟨1, rfl⟩
      · exact ⟨-1, rfl⟩
    exact ⟨s * x * y, by rw [hx, hy, hs, Rat.intCast_mul, Rat.intCast_mul]⟩
/-- After k steps: a is the table, its rows as they lie now; R what stands in the rows, from the place k on; d the last pivot. -/
structure BrQ (n C k : Nat) (a : Nat → Nat → Int) (R : Nat → Nat → Rat) (d : Rat) : Prop where
 le : k ≤ n
 wide : n ≤ C
 ne : d ≠ 0
 det : detF k (qF a) = d
 rel : ∀ i j, i < n → k ≤ j → j < C → d * (a i j : Rat) = sumN k (fun c => (a i c : Rat) * R c j) + (if k ≤ i then R i j else 0)
theorem BrQ.start {n C : Nat} (a : Nat → Nat → Int) (h : n ≤ C) : BrQ n C 0 a (qF a) 1 :=
 ⟨by omega, h, by decide, rfl, fun i j _ _ _ => by
  rw [if_pos (Nat.zero_le i)]
  show 1 * (a i j : Rat) = 0 + (a i j : Rat)
  grind⟩
theorem sumN_div (n : Nat) (d : Rat) (f g : Nat → Rat) : sumN n (fun c => f c * (g c * d⁻¹)) = sumN n (fun c => f c * g c) * d⁻¹ := by
 rw [show sumN n (fun c => f c * g c) * d⁻¹ = d⁻¹ * sumN n (fun c => f c * g c) by grind, ← sumN_mul]
 exact sumN_congr fun c _ => by grind
theorem BrQ.minor {n C k : Nat} {a : Nat → Nat → Int} {R : Nat → Nat → Rat} {d : Rat} (h : BrQ n C k a R d) {i j : Nat} (hi : i < n) (hk : k ≤ i) (hj : k ≤ j) (hC : j < C) :
  detF (k + 1) (fun r c => qF a (if r < k then r else i) (if c < k then c else j)) = R i j := by
 have hd := Rat.mul_inv_cancel _ h.ne
 obtain ⟨N0, hN0⟩ : ∃ N0 : Nat → Nat → Rat, N0 = fun r c => if c < k then qF a (if r < k then r else i) c else if r = k then 1 else 0 := ⟨_, rfl⟩
 obtain ⟨v, hv⟩ : ∃ v : Nat → Rat, v = fun l => if l < k then R l j * d⁻¹ else R i j * d⁻¹ := ⟨_, rfl⟩
 have e1 : detF (k + 1) (fun r c => qF a (if r < k then r else i) (if c < k then c else j)) = detF (k + 1) (colF N0 k (fun r => sumN (k + 1) (fun l => N0 r l * v l))) := by
  refine detF_congr _ fun r c hr hc => ?_
  unfold colF
  by_cases ec : c = k
  ·subst ec
   rw [if_pos rfl, if_neg (Nat.lt_irrefl c)]
   show _ = sumN c (fun l => N0 r l * v l) + N0 r c * v c
   have es : sumN c (fun l => N0 r l * v l) = sumN c (fun l => (a (if r < c then r else i) l : Rat) * R l j) * d⁻¹ := by
    rw [← sumN_div]
    refine sumN_congr fun l hl => ?_
    rw [hN0, hv]
    simp only [if_pos hl]
    rfl
   rw [es]
   have ev : N0 r c * v c = if r = c then R i j * d⁻¹ else 0 := by
    rw [hN0, hv]
    simp only [if_neg (Nat.lt_irrefl c)]
    split <;> grind
   rw [ev]
   by_cases er : r < c
   ·have hr2 := h.rel r j (by have := h.le; omega) hj hC
    rw [if_neg (by omega)] at hr2
    rw [if_pos er, if_neg (by omega)]
    show (a r j : Rat) = _
    have e2 : sumN c (fun l => (a r l : Rat) * R l j) = d * (a r j : Rat) := by grind
    rw [e2]
    grind
   ·obtain rfl : r = c := by omega
    have hr2 := h.rel i j hi hj hC
    rw [if_pos hk] at hr2
    rw [if_neg er, if_pos rfl]
    show (a i j : Rat) = _
    grind
  ·rw [if_neg ec, hN0]
   simp only [if_pos (show c < k by omega)]
 rw [e1, detF_col _ _ _ _ (by omega), detF_edge k N0 (fun r hr => by rw [hN0]; simp only [if_neg (Nat.lt_irrefl k), if_neg (show ¬ r = k by omega)])]
 have e2 : detF k N0 = d := by
  rw [← h.det]
  refine detF_congr _ fun r c hr hc => ?_
  rw [hN0]
  simp only [if_pos hc, if_pos hr]
 have e3 : N0 k k = 1 := by rw [hN0]; simp only [if_neg (Nat.lt_irrefl k), if_true]
 have e4 : v k = R i j * d⁻¹ := by rw [hv]; simp only [if_neg (Nat.lt_irrefl k)]
 rw [e2, e3, e4]
 grind
/-- Cramer: in a row of a pivot. -/
theorem BrQ.cramer {n C k : Nat} {a : Nat → Nat → Int} {R : Nat → Nat → Rat} {d : Rat} (h : BrQ n C k a R d) {i j : Nat} (hi : i < k) (hj : k ≤ j) (hC : j < C) :
  detF k (colF (qF a) i (fun r => qF a r j)) = R i j := by
 have hd := Rat.mul_inv_cancel _ h.ne
 have e1 : detF k (colF (qF a) i (fun r => qF a r j)) = detF k (colF (qF a) i (fun r => sumN k (fun l => qF a r l * (R l j * d⁻¹)))) := by
  refine detF_congr _ fun r c hr hc => ?_
  unfold colF
  by_cases ec : c = i
  ·rw [if_pos ec, if_pos ec]
   show qF a r j = sumN k (fun l => qF a r l * (R l j * d⁻¹))
   rw [sumN_div]
   have hr2 := h.rel r j (by have := h.le; omega) hj hC
   rw [if_neg (by omega)] at hr2
   have e2 : sumN k (fun c => qF a r c * R c j) = d * (a r j : Rat) := by
    have : sumN k (fun c => qF a r c * R c j) = sumN k (fun c => (a r c : Rat) * R c j) := rfl
    rw [this]; grind
   rw [e2]
   show (a r j : Rat) = _
   grind
  ·rw [if_neg ec, if_neg ec]
 rw [e1, detF_col k (qF a) i (fun l => R l j * d⁻¹) hi, h.det]
 grind
/-- What stands there is whole. -/
theorem BrQ.int {n C k : Nat} {a : Nat → Nat → Int} {R : Nat → Nat → Rat} {d : Rat} (h : BrQ n C k a R d) {i j : Nat} (hi : i < n) (hj : k ≤ j) (hC : j < C) : ∃ z : Int, R i j = (z : Rat) := by
 by_cases hk : k ≤ i
 ·rw [← h.minor hi hk hj hC]
  exact detF_int _ _ fun r c _ _ => ⟨_, rfl⟩
 ·rw [← h.cramer (by omega) hj hC]
  refine detF_int _ _ fun r c _ _ => ?_
  unfold colF
  split
  ·exact ⟨_, rfl⟩
  ·exact ⟨_, rfl⟩
/-- One step: the pivot stands in row k. -/
def stepQ (k : Nat) (R : Nat → Nat → Rat) (d : Rat) : Nat → Nat → Rat := fun i j => if i = k then R k j else (R i j * R k k - R i k * R k j) * d⁻¹
theorem BrQ.step {n C k : Nat} {a : Nat → Nat → Int} {R : Nat → Nat → Rat} {d : Rat} (h : BrQ n C k a R d) (hk : k < n) (hp : R k k ≠ 0) : BrQ n C (k + 1) a (stepQ k R d) (R k k) := by
 have hd := Rat.mul_inv_cancel _ h.ne
 have hw := h.wide
 refine ⟨hk, h.wide, hp, ?_, fun i j hi hj hC => ?_⟩
 ·rw [← h.minor hk (Nat.le_refl k) (Nat.le_refl k) (by omega)]
  refine detF_congr _ fun r c hr hc => ?_
  by_cases e1 : r < k <;> by_cases e2 : c < k
  ·rw [if_pos e1, if_pos e2]
  ·rw [if_pos e1, if_neg e2, show c = k by omega]
  ·rw [if_neg e1, if_pos e2, show r = k by omega]
  ·rw [if_neg e1, if_neg e2, show r = k by omega, show c = k by omega]
 ·have r1 := h.rel i j hi (by omega) hC
  have r2 := h.rel i k hi (Nat.le_refl k) (by omega)
  have e1 : sumN k (fun c => (a i c : Rat) * stepQ k R d c j) = (R k k * sumN k (fun c => (a i c : Rat) * R c j) - R k j * sumN k (fun c => (a i c : Rat) * R c k)) * d⁻¹ := by
   have e0 : sumN k (fun c => (a i c : Rat) * stepQ k R d c j) = sumN k (fun c => R k k * d⁻¹ * ((a i c : Rat) * R c j) + (- R k j * d⁻¹) * ((a i c : Rat) * R c k)) := sumN_congr fun c hc => by
    unfold stepQ
    rw [if_neg (show ¬ c = k by omega)]
    grind
   rw [e0, sumN_add, sumN_mul, sumN_mul]
   grind
  have e2 : sumN (k + 1) (fun c => (a i c : Rat) * stepQ k R d c j) = sumN k (fun c => (a i c : Rat) * stepQ k R d c j) + (a i k : Rat) * R k j := by
   show _ + (a i k : Rat) * stepQ k R d k j = _
   unfold stepQ
   rw [if_pos rfl]
  rw [e2, e1]
  obtain ⟨S, hS⟩ : ∃ S, S = sumN k (fun c => (a i c : Rat) * R c j) := ⟨_, rfl⟩
  obtain ⟨T, hT⟩ : ∃ T, T = sumN k (fun c => (a i c : Rat) * R c k) := ⟨_, rfl⟩
  rw [← hS] at r1 ⊢
  rw [← hT] at r2 ⊢
  by_cases k1 : i < k
  ·rw [if_neg (by omega)] at r1 r2 ⊢
   have : S = d * (a i j : Rat) := by grind
   have : T = d * (a i k : Rat) := by grind
   grind
  ·by_cases k2 : i = k
   ·subst k2
    rw [if_pos (Nat.le_refl i)] at r1 r2
    rw [if_neg (by omega)]
    have : S = d * (a i j : Rat) - R i j := by grind
    have : T = d * (a i i : Rat) - R i i := by grind
    grind
   ·rw [if_pos (by omega)] at r1 r2 ⊢
    have : S = d * (a i j : Rat) - R i j := by grind
    have : T = d * (a i k : Rat) - R i k := by grind
    unfold stepQ
    rw [if_neg k2]
    grind
/-- Two rows behind the pivots' change about. -/
theorem BrQ.swap {n C k f : Nat} {a : Nat → Nat → Int} {R : Nat → Nat → Rat} {d : Rat} (h : BrQ n C k a R d) (hf : k ≤ f) (hn : f < n) : BrQ n C k (fun i => if i = k then a f else if i = f then a k else a i) (swapF R k f) d := by
 refine ⟨h.le, h.wide, h.ne, ?_, fun i j hi hj hC => ?_⟩
 ·rw [← h.det]
  refine detF_congr _ fun r c hr hc => ?_
  have e : (if r = k then a f else if r = f then a k else a r) = a r := by rw [if_neg (show ¬ r = k by omega), if_neg (show ¬ r = f by omega)]
  show (((if r = k then a f else if r = f then a k else a r) c : Int) : Rat) = (a r c : Rat)
  rw [e]
 ·have es : ∀ i', sumN k (fun c => (a i' c : Rat) * swapF R k f c j) = sumN k (fun c => (a i' c : Rat) * R c j) := fun i' => sumN_congr fun c hc => by
   unfold swapF
   rw [if_neg (show ¬ c = k by omega), if_neg (show ¬ c = f by omega)]
  by_cases e1 : i = k
  ·subst e1
   have := h.rel f j hn hj hC
   rw [if_pos hf] at this
   simp only [if_true, es]
   rw [if_pos (Nat.le_refl i), this]
   unfold swapF
   rw [if_pos rfl]
  ·by_cases e2 : i = f
   ·subst e2
    have := h.rel k j (by omega) hj hC
    rw [if_pos (Nat.le_refl k)] at this
    simp only [if_neg e1, if_true, es]
    rw [if_pos hf, this]
    unfold swapF
    rw [if_neg e1, if_pos rfl]
   ·have := h.rel i j hi hj hC
    simp only [if_neg e1, if_neg e2, es]
    rw [this]
    unfold swapF
    rw [if_neg e1, if_neg e2]
/-- No pivot: the determinant is 0. -/
theorem BrQ.none {n C k : Nat} {a : Nat → Nat → Int} {R : Nat → Nat → Rat} {d : Rat} (h : BrQ n C k a R d) (hk : k < n) (h0 : ∀ i, k ≤ i → i < n → R i k = 0) : detF n (qF a) = 0 := by
  have hd := Rat.mul_inv_cancel _ h.ne
  have hw := h.wide
  have e := detF_col n (qF a) k (fun l => if l < k then R l k * d⁻¹ else 0) hk
  simp only [if_neg (Nat.lt_irrefl k)] at e
  rw [detF_congr n (M' := qF a) (fun i j hi hj => ?_)] at e
  · rw [e]; grind
  · unfold colF
    by_cases ej : j = k
    · subst ej
      rw [if_pos rfl]
      have r1 := h.rel i j hi (Nat.le_refl j) (by omega)
      have e1 : ∀ m, j ≤ m → sumN m (fun l => qF a i l * (if l < j then R l j * d⁻¹ else 0)) = sumN j (fun l => (a i l : Rat) * R l j) * d⁻¹ := by
        intro m hm
        induction m with
        | zero => obtain rfl : j = 0 := by omega
                  rw [← sumN_div]; rfl
        | succ m ih =>
          by_cases e2 : j ≤ m
          · show sumN m _ + qF a i m * (if m < j then _ else 0) = _
            rw [ih e2, if_neg (by omega)]; grind
          · obtain rfl : j = m + 1 := by omega
            rw [← sumN_div]
            exact sumN_congr fun l hl => by rw [if_pos hl]; rfl
      show sumN n (fun l => qF a i l * (if l < j then R l j * d⁻¹ else 0)) = qF a i j
      rw [e1 n (by omega)]
      have e3 : (if j ≤ i then R i j else 0) = 0 := by
        split
        · exact h0 i (by assumption) hi
        · rfl
      rw [e3] at r1
      show _ = (a i j : Rat)
      have : sumN j (fun l => (a i l : Rat) * R l j) = d * (a i j : Rat) := by grind
      rw [this]; grind
    · rw [if_neg ej]
/-! How long the numbers of a row grow: all over one number. -/
def rowL (r : List Rat) (S : Nat) : Prop := ∃ d : Nat, 0 < d ∧ (digs 4294967296 d).length ≤ S ∧ ∀ x ∈ r, ∃ z : Int, x = mkRat z d ∧ lenZ z ≤ S
theorem rowL.mono {r : List Rat} {S S' : Nat} (h : rowL r S) (hS : S ≤ S') : rowL r S' := by
 obtain ⟨d, h1, h2, h3⟩ := h
 exact ⟨d, h1, by omega, fun x hx => by obtain ⟨z, e, hz⟩ := h3 x hx; exact ⟨z, e, by omega⟩⟩
theorem rowL.len {r : List Rat} {S : Nat} (h : rowL r S) : ∀ x ∈ r, lenQ x S := fun x hx => by
 obtain ⟨d, h1, h2, h3⟩ := h
 obtain ⟨z, rfl, hz⟩ := h3 x hx
 exact lenQ_mk (by omega) hz h2
theorem lenZ_sub_max {x y : Int} {m : Nat} (h : lenZ x ≤ m) (h' : lenZ y ≤ m) : lenZ (x - y) ≤ m + 1 := by
 have h1 := add_len_max h h'
 unfold lenZ
 refine Nat.le_trans (digs_len_mono (by omega) ?_) h1
 omega
def rowsL (T : List (List Rat)) (S : Nat) : Prop := ∀ r ∈ T, rowL r S
theorem rowsL.mono {T : List (List Rat)} {S S' : Nat} (h : rowsL T S) (hS : S ≤ S') : rowsL T S' := fun r hr => (h r hr).mono hS
theorem rowsL.len {T : List (List Rat)} {S : Nat} (h : rowsL T S) : lenT T S := fun r hr => (h r hr).len
/-- The pivots as a function. -/
def pv (ps : List Nat) : Nat → Nat := fun i => ps.getD i 0
end Go.Proofs.Yteijlcfhenlanaa.rat
namespace Go.Proofs.Yteijlcfhenlanaa.whl
open Go.RowKit Go.Proofs.Yteijlcfhenlanaa.num Go.Proofs.Yteijlcfhenlanaa.mem Go.Proofs.Yteijlcfhenlanaa.nat Go.Proofs.Yteijlcfhenlanaa.txt Go.Proofs.Yteijlcfhenlanaa.str Go.Proofs.Yteijlcfhenlanaa.flow
set_option linter.unusedVariables false
def prf (z : Int) (B : Nat) : Pd := ⟨fun w v => IsR w v z ∧ FreshZ B v, fun h hb => ⟨h.1.below hb, h.2⟩⟩
/-- The call's answer is this whole number, in new memory. -/
def RetRF (z : Int) (w : World) (e : Ending) (w' : World) : Prop := ∃ v, e = .returned v ∧ IsR w' v z ∧ FreshZ w.heap.size v ∧ Below w.heap.size w w'
theorem made_pdf (b : Bool) (u : Value) (x : Nat) (z : Int) (w : World) {B : Nat} (h : IsS w .i64 u (digs 10000 x)) (hf : Fresh B u) (hz : sg b x = z) : Calls Try.prog 48 #[.bool b, u] w (RetPd (prf z B) w) :=
 (rmade_any b u x w h).mono fun e w' h' => ⟨_, h'.1, ⟨isR_mk (h.below h'.2) (by rw [← hz, sg_abs]) (by rw [hz]), freshZ_mk hf⟩, h'.2⟩
end Go.Proofs.Yteijlcfhenlanaa.whl
namespace Go.Proofs.Yteijlcfhenlanaa.rat
open Go.RowKit Go.Proofs.Yteijlcfhenlanaa.num Go.Proofs.Yteijlcfhenlanaa.mem Go.Proofs.Yteijlcfhenlanaa.nat Go.Proofs.Yteijlcfhenlanaa.txt Go.Proofs.Yteijlcfhenlanaa.str Go.Proofs.Yteijlcfhenlanaa.flow Go.Proofs.Yteijlcfhenlanaa.whl
set_option linter.unusedVariables false
set_option maxHeartbeats 1600000 in
set_option maxRecDepth 100000 in
theorem roff_any (a0 : Value) (x : Int) (w : World) (h0 : IsZ w a0 x) (hl : lenZ x ≤ 30000) :
  Calls Try.prog 25 #[a0] w (RetRF x w) := by
 obtain ⟨u0, rfl, s0⟩ := h0
 obtain ⟨A0, c0, rfl, _⟩ := id s0
 have HL : Hid ((digs 4294967296 x.natAbs).length ≤ 100000) := by show _ ≤ _; unfold lenZ at hl; omega
 have HZ : Hid (sg (ngB x) x.natAbs = x) := by show _ = _; exact sg_self x
 go_enter Try.func25, Try.ntmps25
 go_upto_region 1 with (fail)
 obtain ⟨wx, hwx, bb, B0, B1, hsz⟩ := vars2 w 29 41 #[.bool (ngB x), .slice A0 (digs 4294967296 (x).natAbs).length c0] #[.bool false, .slice none 0 0]
 rw [hwx]
 clear hwx
 have k0s := s0.below bb
 have k0 : IsZ wx (.agg #[.bool (ngB x), .slice A0 (digs 4294967296 (x).natAbs).length c0]) (x) := isZ_mk k0s rfl rfl
 have hszb := bb.size
 refine flow 6 [Pd.eq (.pointer (some ⟨w.heap.size, 0, none⟩)), Pd.eq (.bool (ngB x)), Pd.eq (.pointer (some ⟨w.heap.size, 1, none⟩)), Pd.eq (.slice A0 (digs 4294967296 (x).natAbs).length c0), ps .i64 (digs 10000 x.natAbs) wx.heap.size, prf (x) wx.heap.size] (by kernel_rfl) (by kernel_rfl) ?ob1 ?done1
 case ob1 =>
  refine And.intro (ob_fieldAddr rfl (wt_none rfl) (ev_far rfl rfl) (fun _ => by kernel_rfl) (fun _ => rfl)) ?_
  refine And.intro (ob_load rfl (wt_none rfl) (ev_dep (j := 0) (by kernel_rfl) rfl rfl) (fun w2 hb => run_load1 Try.underlying4 rfl ((B0.drew.below hb).cell 0)) (fun _ _ => rfl)) ?_
  refine And.intro (ob_fieldAddr rfl (wt_none rfl) (ev_far rfl rfl) (fun _ => by kernel_rfl) (fun _ => rfl)) ?_
  refine And.intro (ob_load rfl (wt_none rfl) (ev_dep (j := 2) (by kernel_rfl) rfl rfl) (fun w2 hb => run_load1 Try.underlying27 rfl ((B0.drew.below hb).cell 1)) (fun _ _ => rfl)) ?_
  refine And.intro (ob_call1 rfl Try.func49 (by kernel_rfl) (wt_none rfl) (ev_dep (j := 3) (by kernel_rfl) rfl rfl) (fun w2 u0 hb h0 => by obtain rfl := h0; exact (refOf_any _ _ _ (k0s.drew.below hb) HL.out).mono fun e w3 h => RetS.pd h hb.size)) ?_
  refine And.intro (ob_call2 rfl Try.func48 (by kernel_rfl) (wt_none rfl) (ev_dep (j := 1) (by kernel_rfl) rfl rfl) (ev_dep (j := 4) (by kernel_rfl) rfl rfl) (fun w2 u0 u1 hb h0 h1 => by obtain rfl := h0; exact made_pdf _ _ _ (x) _ h1.1 h1.2 HZ.out)) ?_
  trivial
 case done1 =>
  refine fun w1 hb1 v0 h0 v1 h1 v2 h2 v3 h3 v4 h4 v5 h5 b hbf => ?_
  obtain rfl := h0; obtain rfl := h1; obtain rfl := h2; obtain rfl := h3
  obtain ⟨q4, f4⟩ := h4
  obtain ⟨q5, f5⟩ := h5
  simp only [Act.put, List.setIfInBounds_toArray, List.set_cons_zero, List.set_cons_succ] at hbf
  subst hbf
  obtain ⟨u5, rfl, q5⟩ := q5
  obtain ⟨A9, c9, rfl, _⟩ := id q5
  have B9 := B1.below hb1
  refine any_store (i := 6) (by kernel_rfl) rfl rfl rfl rfl rfl rfl (cells := [.bool (ngB (x)), .slice A9 (digs 10000 (x).natAbs).length c9]) rfl B9 rfl (by kernel_rfl) (one2 rfl rfl) fun w9 hg9 BB9 => ?_
  have k9 := off q5 B9 no_ints2 hg9
  have f9 := (f5 _ _ rfl).mono (show w.heap.size ≤ wx.heap.size from bb.size)
  have bb9 := ((bb.trans (hb1.mono bb.size)).trans ((Below.refl _ _).grown hg9 (Nat.le_trans bb.size hb1.size) (fun g hg => by injection hg with hg; omega)))
  obtain ⟨c0, c1, _, _⟩ := Blk.two BB9
  refine any_done (by kernel_rfl) ?_
  go_wp2
  exact bodyPost_ret (v := .agg #[.bool (ngB (x)), .slice A9 (digs 10000 (x).natAbs).length c9]) (by simp [results, Try.results25, go_sem, c0, c1]) rfl ⟨_, rfl, isR_mk k9 rfl rfl, freshZ_mk f9, bb9⟩
/-- A row of nothing lies nowhere. -/
theorem SlF.any {k : IntKind} {B : Nat} {w w' : World} {v : Value} (h : SlF k B w v []) : SlF k B w' v [] := by
 obtain ⟨ps, hp, ⟨A, c, h1, h2, h3, _⟩, _⟩ := h
 obtain rfl : ps = [] := List.map_eq_nil_iff.1 hp
 exact ⟨[], rfl, ⟨A, c, h1, h2, h3, fun i p hp => by simp at hp⟩, fun p hp => by cases hp⟩
theorem SlF.take {k : IntKind} {B : Nat} {w : World} {A : Option Addr} {n c : Nat} {qs : List Rat} (h : SlF k B w (.slice A n c) qs) {m : Nat} (hm : m ≤ qs.length) : SlF k B w (.slice A m c) (qs.take m) := by
 obtain ⟨ps, rfl, ⟨A', c', hv, h1, h2, h3⟩, h4⟩ := h
 injection hv with e1 e2 e3
 subst e1; subst e2; subst e3
 rw [List.length_map] at hm
 refine ⟨ps.take m, by rw [List.map_take], ⟨A, c, by rw [List.length_take, Nat.min_eq_left hm], by rw [List.length_take]; omega, h2, fun i p hp => h3 i p ?_⟩, fun p hp => h4 p (List.mem_of_mem_take hp)⟩
 rw [List.getElem?_take] at hp
 split at hp
 ·exact hp
 ·cases hp
section
variable {P : Program}
theorem bin_add_nat {t : TypeId} (x y : Operand) (a b : Nat) (h : a + b ≤ 9223372036854775807) (w : World) : (do eqGuard .add t x y (.int .i64 (a : Int)) (.int .i64 (b : Int)); binOp .add t (.int .i64 (a : Int)) (.int .i64 (b : Int))).run P w = .ok (.int .i64 ((a + b : Nat) : Int)) w := by
 have h0 : (eqGuard .add t x y (.int .i64 (a : Int)) (.int .i64 (b : Int))).run P w = .ok () w := by simp [eqGuard]
 have e : IntKind.i64.wrap ((a : Int) + (b : Int)) = ((a + b : Nat) : Int) := by rw [IntKind.wrap_i64]; omega
 rw [Sem.run_bind, h0, Result.andThen_ok]
 simp [binOp, Op.intArith, go_sem, e]
end
/-- A row of two rows. -/
def Two (w : World) (v : Value) (p q : List Rat) : Prop := ∃ u0 u1, IsV w v [u0, u1] ∧ SlF .u64 4294967296 w u0 p ∧ SlF .u64 4294967296 w u1 q
theorem Two.below {w w' : World} {v : Value} {p q : List Rat} (h : Two w v p q) (hb : Below w.heap.size w w') : Two w' v p q := by
 obtain ⟨u0, u1, h1, h2, h3⟩ := h
 exact ⟨u0, u1, h1.below hb, h2.below hb, h3.below hb⟩
section
variable {P : Program} {Q : Exit → Act → World → Prop} {ops : Array Oper} {L : List Oper} {Φ : List Pd} {w0 : World} {a0 : Act} {i : Nat} {o : Oper}
end
end Go.Proofs.Yteijlcfhenlanaa.rat
namespace Go.Proofs.Yteijlcfhenlanaa.rat
open Go.RowKit Go.ChangeShapes Go.WideShapes Go.ChangeAt Go.Joins Go.Deep Go.Proofs.Yteijlcfhenlanaa.num Go.Proofs.Yteijlcfhenlanaa.mem Go.Proofs.Yteijlcfhenlanaa.nat Go.Proofs.Yteijlcfhenlanaa.txt Go.Proofs.Yteijlcfhenlanaa.str Go.Proofs.Yteijlcfhenlanaa.flow Go.Proofs.Yteijlcfhenlanaa.whl
set_option linter.unusedVariables false
theorem ArgQs.below {w w' : World} {v : Value} (h : ArgQs w v) (hb : Below w.heap.size w w') : ArgQs w' v := by
 obtain ⟨A, n, c, e, h1, h2, h3⟩ := h
 refine ⟨A, n, c, e, h1, h2, fun i hi => ?_⟩
 obtain ⟨ad, b, u, t, l, m, e2, c0, c1, c2, k1, k2, k3, k4⟩ := h3 i hi
 exact ⟨ad, b, u, t, l, m, e2, (hb.cell (World.block_lt_of_cell? w _ c0)).trans c0, (hb.cell (World.block_lt_of_cell? w _ c1)).trans c1, (hb.cell (World.block_lt_of_cell? w _ c2)).trans c2, k1.below hb, k2, k3.below hb, k4⟩
theorem IsI.take {w : World} {A : Option Addr} {n c : Nat} {l : List Int} (h : IsI w (.slice A n c) l) {m : Nat} (hm : m ≤ l.length) : IsI w (.slice A m c) (l.take m) := by
 obtain ⟨A', c', hv, h1, h2, h3, h4⟩ := h
 injection hv with e1 e2 e3
 subst e1; subst e2; subst e3
 refine ⟨A, c, by rw [List.length_take, Nat.min_eq_left hm], by rw [List.length_take]; omega, h2, fun z hz => h3 z (List.mem_of_mem_take hz), fun i z hz => h4 i z ?_⟩
 rw [List.getElem?_take] at hz
 split at hz
 ·exact hz
 ·cases hz
section
variable {P : Program}
end
end Go.Proofs.Yteijlcfhenlanaa.rat
namespace Go.Proofs.Yteijlcfhenlanaa.rat
open Go.RowKit Go.Proofs.Yteijlcfhenlanaa.num Go.Proofs.Yteijlcfhenlanaa.mem Go.Proofs.Yteijlcfhenlanaa.nat Go.Proofs.Yteijlcfhenlanaa.txt Go.Proofs.Yteijlcfhenlanaa.str Go.Proofs.Yteijlcfhenlanaa.flow Go.Proofs.Yteijlcfhenlanaa.whl
set_option linter.unusedVariables false
/-- Limbs in new memory; a row in new memory, limbs and all. -/
def NewL (B : Nat) (ps : List Elt) : Prop := ∀ p ∈ ps, Fresh B p.2.1 ∧ Fresh B p.2.2
def IsN (k : IntKind) (B : Nat) (w : World) (B0 : Nat) (v : Value) (r : List Rat) : Prop := ∃ ps : List Elt, ps.map (·.1) = r ∧ IsVF w v ps ∧ (∀ p ∈ ps, IsE k B w p ∧ Fresh B0 p.2.1 ∧ Fresh B0 p.2.2) ∧ ∀ g, v.ownBlock = some g → B0 ≤ g ∧ g < w.heap.size
theorem IsN.sl {k : IntKind} {B : Nat} {w : World} {B0 : Nat} {v : Value} {r : List Rat} (h : IsN k B w B0 v r) : SlF k B w v r := by
 obtain ⟨ps, h1, h2, h3, _⟩ := h
 exact ⟨ps, h1, h2, fun p hp => (h3 p hp).1⟩
theorem IsN.below {k : IntKind} {B : Nat} {w w' : World} {B0 : Nat} {v : Value} {r : List Rat} (h : IsN k B w B0 v r) (hb : Below w.heap.size w w') : IsN k B w' B0 v r := by
 obtain ⟨ps, h1, h2, h3, h4⟩ := h
 exact ⟨ps, h1, h2.below hb, fun p hp => ⟨(h3 p hp).1.below hb, (h3 p hp).2⟩, fun g hg => ⟨(h4 g hg).1, Nat.lt_of_lt_of_le (h4 g hg).2 hb.size⟩⟩
theorem IsN.mono {k : IntKind} {B : Nat} {w : World} {B0 B1 : Nat} {v : Value} {r : List Rat} (h : IsN k B w B0 v r) (hb : B1 ≤ B0) : IsN k B w B1 v r := by
 obtain ⟨ps, h1, h2, h3, h4⟩ := h
 exact ⟨ps, h1, h2, fun p hp => ⟨(h3 p hp).1, (h3 p hp).2.1.mono hb, (h3 p hp).2.2.mono hb⟩, fun g hg => ⟨Nat.le_trans hb (h4 g hg).1, (h4 g hg).2⟩⟩
/-- A slice of slices of fractions. -/
def SlT (k : IntKind) (B : Nat) (w : World) (v : Value) (t : List (List Rat)) : Prop := ∃ us : List Value, us.length = t.length ∧ (∃ A c, v = .slice A us.length c ∧ us.length ≤ c ∧ c ≤ maxLen ∧ ∀ (i : Nat) (u : Value), us[i]? = some u → ∃ ad, A = some ad ∧ w.cell? (ad.add i) = some u) ∧ ∀ (i : Nat) (u : Value) (r : List Rat), us[i]? = some u → t[i]? = some r → SlF k B w u r
theorem SlT.below {k : IntKind} {B : Nat} {w w' : World} {v : Value} {t : List (List Rat)} (h : SlT k B w v t) (hb : Below w.heap.size w w') : SlT k B w' v t := by
 obtain ⟨us, h1, ⟨A, c, e, h2, h3, h4⟩, h5⟩ := h
 refine ⟨us, h1, ⟨A, c, e, h2, h3, fun i u hu => ?_⟩, fun i u r hu hr => (h5 i u r hu hr).below hb⟩
 obtain ⟨ad, ha, hc⟩ := h4 i u hu
 exact ⟨ad, ha, (hb.cell (World.block_lt_of_cell? w _ hc)).trans hc⟩
theorem SlT.shape {k : IntKind} {B : Nat} {w : World} {v : Value} {t : List (List Rat)} (h : SlT k B w v t) : ∃ A c, v = .slice A t.length c ∧ t.length ≤ c ∧ c ≤ maxLen := by
 obtain ⟨us, h1, ⟨A, c, e, h2, h3, _⟩, _⟩ := h
 exact ⟨A, c, by rw [e, h1], by omega, h3⟩
/-! Tables that a call makes by append. -/
/-- A row of fractions that lies elsewhere, limbs and all. -/
def FarS (k : IntKind) (B : Nat) (w : World) (v u : Value) (r : List Rat) : Prop := ∃ ps : List Elt, ps.map (·.1) = r ∧ IsVF w u ps ∧ FarF k B w v ps ∧ ∀ g, u.ownBlock = some g → g < w.heap.size ∧ v.ownBlock ≠ some g
theorem FarS.sl {k : IntKind} {B : Nat} {w : World} {v u : Value} {r : List Rat} (h : FarS k B w v u r) : SlF k B w u r := by
 obtain ⟨ps, h1, h2, h3, _⟩ := h
 exact ⟨ps, h1, h2, fun p hp => (h3 p hp).1⟩
theorem FarS.below {k : IntKind} {B : Nat} {w w' : World} {v u : Value} {r : List Rat} (h : FarS k B w v u r) (hb : Below w.heap.size w w') : FarS k B w' v u r := by
 obtain ⟨ps, h1, h2, h3, h4⟩ := h
 exact ⟨ps, h1, h2.below hb, h3.below hb, fun g hg => ⟨Nat.lt_of_lt_of_le (h4 g hg).1 hb.size, (h4 g hg).2⟩⟩
theorem IsN.far {k : IntKind} {B : Nat} {w : World} {B0 : Nat} {v u : Value} {r : List Rat} (h : IsN k B w B0 u r) (hv : ∀ g, v.ownBlock = some g → g < B0) : FarS k B w v u r := by
 obtain ⟨ps, h1, h2, h3, h4⟩ := h
 exact ⟨ps, h1, h2, fun p hp => ⟨(h3 p hp).1, (h3 p hp).2.1.far hv, (h3 p hp).2.2.far hv⟩, fun g hg => ⟨(h4 g hg).2, fun e => by have h5 := hv _ e; have h6 := (h4 g hg).1; omega⟩⟩
def TabF (k : IntKind) (B : Nat) (w : World) (v : Value) (us : List Value) (t : List (List Rat)) : Prop := us.length = t.length ∧ ∀ (i : Nat) (u : Value) (r : List Rat), us[i]? = some u → t[i]? = some r → FarS k B w v u r
theorem TabF.below {k : IntKind} {B : Nat} {w w' : World} {v : Value} {us : List Value} {t : List (List Rat)} (h : TabF k B w v us t) (hb : Below w.heap.size w w') : TabF k B w' v us t := ⟨h.1, fun i u r hu hr => (h.2 i u r hu hr).below hb⟩
end Go.Proofs.Yteijlcfhenlanaa.rat
namespace Go.Proofs.Yteijlcfhenlanaa.flow
open Go.RowKit Go.Proofs.Yteijlcfhenlanaa.num Go.Proofs.Yteijlcfhenlanaa.mem Go.Proofs.Yteijlcfhenlanaa.whl Go.Proofs.Yteijlcfhenlanaa.rat
set_option linter.unusedVariables false
section
variable {P : Program} {Q : Exit → Act → World → Prop} {ops : Array Oper} {L : List Oper} {Φ : List Pd} {w0 : World} {a0 : Act} {i : Nat} {o : Oper}
end
end Go.Proofs.Yteijlcfhenlanaa.flow
namespace Go.Proofs.Yteijlcfhenlanaa.rat
open Go.RowKit Go.Proofs.Yteijlcfhenlanaa.num Go.Proofs.Yteijlcfhenlanaa.mem Go.Proofs.Yteijlcfhenlanaa.nat Go.Proofs.Yteijlcfhenlanaa.txt Go.Proofs.Yteijlcfhenlanaa.str Go.Proofs.Yteijlcfhenlanaa.flow Go.Proofs.Yteijlcfhenlanaa.whl
set_option linter.unusedVariables false
theorem cells3_len (p : Elt) : (cells3 p).length = 3 := rfl
theorem flat3_len (ps : List Elt) : (flat3 ps).length = ps.length * 3 := by
 induction ps with
 | nil => rfl
 | cons p ps ih => show (cells3 p ++ flat3 ps).length = _; rw [List.length_append, ih, cells3_len, List.length_cons]; omega
theorem flat3_cons (p : Elt) (ps : List Elt) : flat3 (p :: ps) = cells3 p ++ flat3 ps := rfl
section
variable {P : Program}
end
/-! Calls through a function's value. -/
section
variable {P : Program} {Q : Exit → Act → World → Prop} {ops : Array Oper} {L : List Oper} {Φ : List Pd} {w0 : World} {a0 : Act} {i : Nat} {o : Oper}
end
theorem addr_zero (g i : Nat) : (⟨g, 0, none⟩ : Addr).add i = ⟨g, i, none⟩ := by
 unfold Addr.add
 by_cases h : i = 0
 ·simp [h]
 ·simp [h]
/-- Block g is a table of slices, at its full length. -/
def TabB (w : World) (g : Nat) (TS : TypeId) (us : List Value) : Prop := Blk w g TS us.toArray ∧ ∀ u ∈ us, ∃ A n c, u = .slice A n c
theorem TabB.below {w w' : World} {g : Nat} {TS : TypeId} {us : List Value} (h : TabB w g TS us) (hb : Below w.heap.size w w') : TabB w' g TS us := ⟨h.1.below hb, h.2⟩
theorem TabB.lt {w : World} {g : Nat} {TS : TypeId} {us : List Value} (h : TabB w g TS us) : g < w.heap.size := h.1.lt
theorem TabB.cell {w : World} {g : Nat} {TS : TypeId} {us : List Value} (h : TabB w g TS us) {i : Nat} {u : Value} (hu : us[i]? = some u) : w.cell? ((⟨g, 0, none⟩ : Addr).add i) = some u := by
 rw [addr_zero, h.1.cell, List.getElem?_toArray]; exact hu
theorem TabB.keep {w w' : World} {g : Nat} {TS : TypeId} {us : List Value} {k : IntKind} {v : Value} {l : List Nat} (h : TabB w g TS us) (hg : w.grownBy w' (some g)) (hs : IsS w k v l) : IsS w' k v l :=
 Go.Proofs.Yteijlcfhenlanaa.flow.off hs h.1 (fun c hc n e => by
  obtain ⟨A, m, d, e1⟩ := h.2 c (List.mem_toArray.1 hc)
  rw [e1] at e
  cases e) hg
theorem TabB.put {w w' : World} {g i : Nat} {TS : TypeId} {us : List Value} {u : Value} (h : TabB w g TS us) (hB : w'.heap[g]? = some (.cells (us.toArray.setIfInBounds i u) TS (0, 0))) (hu : ∃ A n c, u = .slice A n c) : TabB w' g TS (us.set i u) := by
 refine ⟨by unfold Blk; rw [hB]; simp, fun v hv => ?_⟩
 rcases List.mem_or_eq_of_mem_set hv with hv | rfl
 ·exact h.2 v hv
 ·exact hu
theorem TabB.grown {w w' : World} {g : Nat} {TS : TypeId} {us : List Value} {row : Option Nat} (h : TabB w g TS us) (hg : w.grownBy w' row) (hne : row ≠ some g) : TabB w' g TS us :=
 ⟨(hg.block g h.1.lt (fun e => hne e.symm)).trans h.1, h.2⟩
/-- A table whose rows read as these. -/
def TabS (k : IntKind) (B : Nat) (w : World) (g : Nat) (TS : TypeId) (us : List Value) (t : List (List Rat)) : Prop := TabB w g TS us ∧ us.length = t.length ∧ ∀ (i : Nat) (u : Value) (r : List Rat), us[i]? = some u → t[i]? = some r → SlF k B w u r
theorem TabS.below {k : IntKind} {B : Nat} {w w' : World} {g : Nat} {TS : TypeId} {us : List Value} {t : List (List Rat)} (h : TabS k B w g TS us t) (hb : Below w.heap.size w w') : TabS k B w' g TS us t := ⟨h.1.below hb, h.2.1, fun i u r hu hr => (h.2.2 i u r hu hr).below hb⟩
section
variable {P : Program}
theorem run_make_v {w : World} {t TS : TypeId} (ht : P.underlying t = some (.slice TS)) (hI : ∃ i, P.info? TS = some i ∧ i.zero = some (.slice none 0 0) ∧ i.size = 1 ∧ i.bytes = 24) (n : Nat) (hn : n ≤ 1000000000) :
  ∃ w', (Instr.makeSlice t (.int .i64 (n : Int)) (.int .i64 (n : Int))).run P w = .ok (.slice (some ⟨w.heap.size, 0, none⟩) n n) w' ∧ TabB w' w.heap.size TS (List.replicate n (.slice none 0 0)) ∧ Below w.heap.size w w' := by
 obtain ⟨i, hi, hz, hs, hb⟩ := hI
 obtain ⟨w', h1, h2, h3⟩ := run_make_full (P := P) w w.heap.size t TS i _ 1 ht hi hz hs .i64 .i64 n (by rw [hb]; omega) (by unfold maxLen; omega) (Nat.le_refl _)
 refine ⟨w', h1, ⟨?_, fun u hu => ⟨_, _, _, (List.mem_replicate.1 hu).2⟩⟩, (Below.refl _ w).grown h3 (Nat.le_refl _) (fun g hg => by cases hg)⟩
 obtain ⟨hl, h2⟩ := h2
 rcases h2 with ⟨h4, _⟩ | ⟨g, cap, cur, h4, _, h5, _, _, h6, h7⟩
 ·cases h4
 ·injection h4 with h4 _ h8
  injection h4 with h4
  injection h4 with h4 _ _
  subst h4; subst h8
  rw [List.take_of_length_le (by simp [h6])] at h7
  have e : cur = (List.replicate n (Value.slice none 0 0)).toArray := by
   have e1 : (madeCells (Value.slice none 0 0).cells (n * 1)).toList = List.replicate n (.slice none 0 0) := by rw [Nat.mul_one]; exact toList_madeCells_one _ _
   rw [← e1, ← h7]
  rw [← e]
  exact h5
end
end Go.Proofs.Yteijlcfhenlanaa.rat
namespace Go.Proofs.Yteijlcfhenlanaa.flow
open Go.RowKit Go.Proofs.Yteijlcfhenlanaa.num Go.Proofs.Yteijlcfhenlanaa.mem Go.Proofs.Yteijlcfhenlanaa.whl Go.Proofs.Yteijlcfhenlanaa.rat
set_option linter.unusedVariables false
section
variable {P : Program} {Q : Exit → Act → World → Prop} {ops : Array Oper} {L : List Oper} {Φ : List Pd} {w0 : World} {a0 : Act} {i : Nat} {o : Oper}
end
end Go.Proofs.Yteijlcfhenlanaa.flow
namespace Go.Proofs.Yteijlcfhenlanaa.rat
open Go.RowKit Go.Proofs.Yteijlcfhenlanaa.num Go.Proofs.Yteijlcfhenlanaa.mem Go.Proofs.Yteijlcfhenlanaa.nat Go.Proofs.Yteijlcfhenlanaa.txt Go.Proofs.Yteijlcfhenlanaa.str Go.Proofs.Yteijlcfhenlanaa.flow Go.Proofs.Yteijlcfhenlanaa.whl
set_option linter.unusedVariables false
/-- A table whose rows the call owns, each in a block of its own; their elements' limbs lie elsewhere than all rows, and than the table. -/
structure TabO (k : IntKind) (B : Nat) (T : TypeId) (w : World) (base : Nat) (TS : TypeId) (V : Value) (us : List Value) (pss : List (List Elt)) : Prop where
 row : RowV w base TS V us
 len : us.length = pss.length
 own : ∀ (i : Nat) (u : Value) (ps : List Elt), us[i]? = some u → pss[i]? = some ps → RowF T w base u ps
 far : ∀ u ∈ us, ∀ ps ∈ pss, FarF k B w u ps
 farV : ∀ ps ∈ pss, FarF k B w V ps
 apart : ∀ (i j : Nat) (u v : Value), i ≠ j → us[i]? = some u → us[j]? = some v → ∀ h, u.ownBlock = some h → v.ownBlock ≠ some h
theorem TabO.below {k : IntKind} {B : Nat} {T : TypeId} {w w' : World} {base : Nat} {TS : TypeId} {V : Value} {us : List Value} {pss : List (List Elt)} (h : TabO k B T w base TS V us pss) (hb : Below w.heap.size w w') : TabO k B T w' base TS V us pss :=
 ⟨h.row.below hb, h.len, fun i u ps hu hp => (h.own i u ps hu hp).below hb, fun u hu ps hp => (h.far u hu ps hp).below hb, fun ps hp => (h.farV ps hp).below hb, h.apart⟩
theorem TabO.cell {k : IntKind} {B : Nat} {T : TypeId} {w : World} {base g n c : Nat} {TS : TypeId} {us : List Value} {pss : List (List Elt)} (h : TabO k B T w base TS (.slice (some ⟨g, 0, none⟩) n c) us pss) {i : Nat} {u : Value} (hu : us[i]? = some u) : w.cell? ⟨g, i, none⟩ = some u := h.row.cellAt hu
theorem TabO.frozen {k : IntKind} {B : Nat} {T : TypeId} {w : World} {base g n c : Nat} {TS : TypeId} {us : List Value} {pss : List (List Elt)} (h : TabO k B T w base TS (.slice (some ⟨g, 0, none⟩) n c) us pss) (i : Nat) : w.frozen? ⟨g, i, none⟩ = false := h.row.frozenAt i
/-- A slice of tables. -/
def ListT (w : World) (v : Value) (ts : List (List (List Rat))) : Prop := ∃ us : List Value, us.length = ts.length ∧ IsV w v us ∧ us.length ≤ 1000000 ∧ ∀ (i : Nat) (u : Value) (t : List (List Rat)), us[i]? = some u → ts[i]? = some t → SlT .u64 4294967296 w u t
theorem ListT.below {w w' : World} {v : Value} {ts : List (List (List Rat))} (h : ListT w v ts) (hb : Below w.heap.size w w') : ListT w' v ts := by
 obtain ⟨us, h1, h2, h3, h4⟩ := h
 exact ⟨us, h1, h2.below hb, h3, fun i u t hu ht => (h4 i u t hu ht).below hb⟩
theorem ListT.shape {w : World} {v : Value} {ts : List (List (List Rat))} (h : ListT w v ts) : ∃ A c, v = .slice A ts.length c ∧ ts.length ≤ c := by
 obtain ⟨us, h1, ⟨A, c, e, h2, _⟩, _⟩ := h
 exact ⟨A, c, by rw [e, h1], by omega⟩
section
variable {P : Program} {Q : Exit → Act → World → Prop} {ops : Array Oper} {L : List Oper} {Φ : List Pd} {w0 : World} {a0 : Act} {i : Nat} {o : Oper}
end
end Go.Proofs.Yteijlcfhenlanaa.rat
namespace Go.Proofs.Yteijlcfhenlanaa.flow
open Go.RowKit Go.Proofs.Yteijlcfhenlanaa.num Go.Proofs.Yteijlcfhenlanaa.mem Go.Proofs.Yteijlcfhenlanaa.whl Go.Proofs.Yteijlcfhenlanaa.rat
set_option linter.unusedVariables false
section
variable {P : Program} {Q : Exit → Act → World → Prop} {ops : Array Oper} {o : Oper} {i : Nat}
end
end Go.Proofs.Yteijlcfhenlanaa.flow
namespace Go.Proofs.Yteijlcfhenlanaa.rat
open Go.RowKit Go.Proofs.Yteijlcfhenlanaa.num Go.Proofs.Yteijlcfhenlanaa.mem Go.Proofs.Yteijlcfhenlanaa.nat Go.Proofs.Yteijlcfhenlanaa.txt Go.Proofs.Yteijlcfhenlanaa.str Go.Proofs.Yteijlcfhenlanaa.flow Go.Proofs.Yteijlcfhenlanaa.whl
set_option linter.unusedVariables false
theorem Grew.trans {w w1 w2 : World} {v v1 v2 : Value} (h : Grew w w1 v v1) (k : Grew w1 w2 v1 v2) : Grew w w2 v v2 := by
 obtain ⟨a1, a2, a3⟩ := h
 obtain ⟨b1, b2, b3⟩ := k
 refine ⟨fun q u l hu hf => ?_, ⟨b2.os.trans a2.os, b2.tape.trans a2.tape, b2.output.trans a2.output, Nat.le_trans a2.size b2.size, fun i hi hne => ?_⟩, fun g hg hne => b3 g (Nat.lt_of_lt_of_le hg a2.size) (a3 g hg hne)⟩
 ·have x := a1 q u l hu hf
  exact b1 q u l x.1 x.2
 ·rw [b2.block i (Nat.lt_of_lt_of_le hi a2.size) (fun e => a3 i hi (fun e2 => hne e2.symm) e.symm), a2.block i hi hne]
theorem NewL.below {B B' : Nat} {ps : List Elt} (h : NewL B ps) (hb : B' ≤ B) : NewL B' ps := fun p hp => ⟨(h p hp).1.mono hb, (h p hp).2.mono hb⟩
theorem NewL.far {B : Nat} {ps : List Elt} (h : NewL B ps) {v : Value} (hv : ∀ g, v.ownBlock = some g → g < B) : ∀ p ∈ ps, Far v p.2.1 ∧ Far v p.2.2 := fun p hp => ⟨(h p hp).1.far hv, (h p hp).2.far hv⟩
set_option linter.unusedSimpArgs false
theorem heap_setCell {w : World} {g i : Nat} {u : Value} {cs : Array Value} {e : TypeId} (h : w.heap[g]? = some (.cells cs e (0, 0))) : (w.setCell ⟨g, i, none⟩ u).heap[g]? = some (.cells (cs.setIfInBounds i u) e (0, 0)) := by
 simp [World.setCell, Array.getElem?_modify, h]
theorem TabS.cellAt {k : IntKind} {B : Nat} {w : World} {g : Nat} {TS : TypeId} {us : List Value} {t : List (List Rat)} (h : TabS k B w g TS us t) {i : Nat} (hi : i < t.length) : ∃ u, w.cell? ⟨g, i, none⟩ = some u := by
 have hu : us[i]? = some (us[i]'(by rw [h.2.1]; exact hi)) := List.getElem?_eq_getElem _
 have := h.1.cell hu
 rw [addr_zero] at this
 exact ⟨_, this⟩
theorem TabS.frozenAt {k : IntKind} {B : Nat} {w : World} {g : Nat} {TS : TypeId} {us : List Value} {t : List (List Rat)} (h : TabS k B w g TS us t) (i : Nat) : w.frozen? ⟨g, i, none⟩ = false := h.1.1.frozen i
set_option maxRecDepth 100000
/-- A key. -/
def klit (a b : Int) : Lit := .string (keyBytes [.int .i64 a, .int .i64 b])
def I64 (a : Int) : Prop := -9223372036854775808 ≤ a ∧ a ≤ 9223372036854775807
def qv (p : Elt) : Value := .agg #[.bool (ngB p.1.num), p.2.1, p.2.2]
/-- What the map holds is what of the table is no nought. -/
structure MapD (D : DataW Value) (w : World) (T : List (List Rat)) : Prop where
 hit : ∀ (i j : Nat) (q : Rat), cellq T i j = some q → q ≠ 0 → Maps.has D (klit i j) = true ∧ ∃ p : Elt, (∀ z, D.atKey (klit i j) z = .held (qv p)) ∧ p.1 = q ∧ IsE .u64 4294967296 w p
 miss : ∀ a b : Int, I64 a → I64 b → (∀ (i j : Nat) (q : Rat), a = i → b = j → cellq T i j = some q → q = 0) → Maps.has D (klit a b) = false
 cnt : Maps.size D = cntT T
theorem MapD.kept {D : DataW Value} {w w' : World} {T : List (List Rat)} (h : MapD D w T) (hk : ∀ p : Elt, IsE .u64 4294967296 w p → IsE .u64 4294967296 w' p) : MapD D w' T :=
 ⟨fun i j q hq h0 => by obtain ⟨h1, p, h2, h3, h4⟩ := h.hit i j q hq h0; exact ⟨h1, p, h2, h3, hk p h4⟩, h.miss, h.cnt⟩
theorem blk_set1 {w : World} {g i : Nat} {t : TypeId} {cs : Array Value} (h : Blk w g t cs) (u : Value) : Blk (w.setCell ⟨g, i, none⟩ u) g t (cs.setIfInBounds i u) := by
 unfold Blk at h ⊢
 simp [World.setCell, Array.getElem?_modify, h]
/-- All fractions are of so many limbs at most. -/
def lenS (T : List (List Rat)) (m : Nat) : Prop := ∀ (i j : Nat) (q : Rat), cellq T i j = some q → lenQ q m
theorem lenS.mono {T : List (List Rat)} {m n : Nat} (h : lenS T m) (hn : m ≤ n) : lenS T n := fun i j q hq => (h i j q hq).mono hn
theorem below_grown {w w2 w3 : World} {row : Option Nat} (hg : w.grownBy w2 row) (hb : Below w2.heap.size w2 w3) : w.grownBy w3 row :=
 ⟨hb.os.trans hg.os, hb.tape.trans hg.tape, hb.output.trans hg.output, Nat.le_trans hg.size hb.size, fun k hk hne => (hb.block k (Nat.lt_of_lt_of_le hk hg.size)).trans (hg.block k hk hne)⟩
theorem below_none {w w2 : World} (hb : Below w.heap.size w w2) (row : Option Nat) : w.grownBy w2 row := ⟨hb.os, hb.tape, hb.output, hb.size, fun k hk _ => hb.block k hk⟩
section
variable {w : World} {ops : Array Oper} {o : Oper} {a : Act} {K : Act → World → Prop} {Q : Exit → Act → World → Prop} {E : Prop} {b R C i j : Nat} {T : List (List Rat)}
end
/-- A place, and what stands there. -/
abbrev Cel := Nat × Elt
/-- The value is a slice of these cells. -/
def IsVC (w : World) (v : Value) (xs : List Cel) : Prop := ∃ A c, v = .slice A xs.length c ∧ xs.length ≤ c ∧ c ≤ maxLen ∧ ∀ i x, xs[i]? = some x → ∃ g o, A = some ⟨g, o, none⟩ ∧ w.cell? ⟨g, o + i * 4, none⟩ = some (.int .i64 (x.1 : Int)) ∧ w.cell? ⟨g, o + i * 4 + 1, none⟩ = some (.bool (ngB x.2.1.num)) ∧ w.cell? ⟨g, o + i * 4 + 2, none⟩ = some x.2.2.1 ∧ w.cell? ⟨g, o + i * 4 + 3, none⟩ = some x.2.2.2
theorem IsVC.below {w w' : World} {v : Value} {xs : List Cel} (h : IsVC w v xs) (hb : Below w.heap.size w w') : IsVC w' v xs := by
 obtain ⟨A, c, e, h1, h2, h3⟩ := h
 refine ⟨A, c, e, h1, h2, fun i x hx => ?_⟩
 obtain ⟨g, o, e2, c0, c1, c2, c3⟩ := h3 i x hx
 exact ⟨g, o, e2, (hb.cell (World.block_lt_of_cell? w _ c0)).trans c0, (hb.cell (World.block_lt_of_cell? w _ c1)).trans c1, (hb.cell (World.block_lt_of_cell? w _ c2)).trans c2, (hb.cell (World.block_lt_of_cell? w _ c3)).trans c3⟩
def celq (x : Cel) : Nat × Rat := (x.1, x.2.1)
/-- The value reads as these places and fractions. -/
def SlC (w : World) (v : Value) (l : List (Nat × Rat)) : Prop := ∃ xs : List Cel, xs.map celq = l ∧ IsVC w v xs ∧ ∀ x ∈ xs, IsE .u64 4294967296 w x.2
theorem SlC.below {w w' : World} {v : Value} {l : List (Nat × Rat)} (h : SlC w v l) (hb : Below w.heap.size w w') : SlC w' v l := by
 obtain ⟨xs, e, h1, h2⟩ := h
 exact ⟨xs, e, h1.below hb, fun x hx => (h2 x hx).below hb⟩
theorem SlC.shape {w : World} {v : Value} {l : List (Nat × Rat)} (h : SlC w v l) : ∃ A c, v = .slice A l.length c ∧ l.length ≤ c ∧ c ≤ maxLen := by
 obtain ⟨xs, rfl, ⟨A, c, e, h1, h2, _⟩, _⟩ := h
 rw [List.length_map]
 exact ⟨A, c, e, h1, h2⟩
end Go.Proofs.Yteijlcfhenlanaa.rat
namespace Go.Proofs.Yteijlcfhenlanaa.rat
open Go.RowKit Go.ChangeShapes Go.WideShapes Go.ChangeAt Go.Joins Go.Deep Go.Proofs.Yteijlcfhenlanaa.num Go.Proofs.Yteijlcfhenlanaa.mem Go.Proofs.Yteijlcfhenlanaa.nat Go.Proofs.Yteijlcfhenlanaa.txt Go.Proofs.Yteijlcfhenlanaa.str Go.Proofs.Yteijlcfhenlanaa.flow Go.Proofs.Yteijlcfhenlanaa.whl
set_option linter.unusedVariables false
/-- A slice of slices of structs of a sign, limbs, and limbs, as it came in. -/
def ArgT (w : World) (v : Value) : Prop := ∃ A n c, v = .slice A n c ∧ n ≤ c ∧ c ≤ maxLen ∧ ∀ i, i < n → ∃ ad u, A = some ad ∧ w.cell? (ad.add i) = some u ∧ ArgQs w u
theorem ArgT.below {w w' : World} {v : Value} (h : ArgT w v) (hb : Below w.heap.size w w') : ArgT w' v := by
 obtain ⟨A, n, c, e, h1, h2, h3⟩ := h
 refine ⟨A, n, c, e, h1, h2, fun i hi => ?_⟩
 obtain ⟨ad, u, a1, e0, k⟩ := h3 i hi
 exact ⟨ad, u, a1, (hb.cell (World.block_lt_of_cell? w _ e0)).trans e0, ArgQs.below k hb⟩
end Go.Proofs.Yteijlcfhenlanaa.rat
namespace Go.Proofs.Yteijlcfhenlanaa.rat
open Go.RowKit Go.Proofs.Yteijlcfhenlanaa.num Go.Proofs.Yteijlcfhenlanaa.mem Go.Proofs.Yteijlcfhenlanaa.nat Go.Proofs.Yteijlcfhenlanaa.txt Go.Proofs.Yteijlcfhenlanaa.str Go.Proofs.Yteijlcfhenlanaa.flow Go.Proofs.Yteijlcfhenlanaa.whl
set_option linter.unusedVariables false
theorem flat3_take : ∀ (ps : List Elt) (m : Nat), flat3 (ps.take m) = (flat3 ps).take (m * 3)
  | [], m => by simp [flat3]
  | p :: ps, 0 => by simp [flat3]
  | p :: ps, m + 1 => by
    rw [List.take_succ_cons, flat3_cons, flat3_cons, flat3_take ps m, show (m + 1) * 3 = m * 3 + 3 from by omega, List.take_append, cells3_len, List.take_of_length_le (l := cells3 p) (by rw [cells3_len]; omega), Nat.add_sub_cancel]
/-- A row's front is a row of the call's own. -/
theorem RowF.take {T : TypeId} {w : World} {base n c m : Nat} {A : Option Addr} {ps : List Elt} (h : RowF T w base (.slice A n c) ps) (hm : m ≤ ps.length) : RowF T w base (.slice A m c) (ps.take m) := by
 have hl : (ps.take m).length = m := by rw [List.length_take]; omega
 unfold RowF
 rw [hl]
 refine ⟨by rw [flat3_len, hl], ?_⟩
 rcases h.2 with ⟨e, h0⟩ | ⟨g, cap, cur, e, h1, h2, h3, h4, h5, h6⟩
 ·injection e with e1 e2 e3
  subst e1; subst e3
  have : m = 0 := by omega
  subst this
  exact .inl ⟨rfl, rfl⟩
 ·injection e with e1 e2 e3
  subst e1; subst e3
  refine .inr ⟨g, c, cur, rfl, h1, h2, by omega, h4, h5, ?_⟩
  rw [flat3_take, ← h6, List.take_take, Nat.min_eq_left (by omega)]
/-- A table whose rows the call owns, each in a block of its own, whatever its elements' limbs are. -/
structure TabK (T : TypeId) (w : World) (base : Nat) (TS : TypeId) (V : Value) (us : List Value) (pss : List (List Elt)) : Prop where
 row : RowV w base TS V us
 len : us.length = pss.length
 own : ∀ (i : Nat) (u : Value) (ps : List Elt), us[i]? = some u → pss[i]? = some ps → RowF T w base u ps
 apart : ∀ (i j : Nat) (u v : Value), i ≠ j → us[i]? = some u → us[j]? = some v → ∀ h, u.ownBlock = some h → v.ownBlock ≠ some h
theorem TabO.k {k : IntKind} {B : Nat} {T : TypeId} {w : World} {base : Nat} {TS : TypeId} {V : Value} {us : List Value} {pss : List (List Elt)} (h : TabO k B T w base TS V us pss) : TabK T w base TS V us pss := ⟨h.row, h.len, h.own, h.apart⟩
theorem RowV.kept {w w' : World} {base : Nat} {TS : TypeId} {V : Value} {us : List Value} {row : Option Nat} (h : RowV w base TS V us) (hg : w.grownBy w' row) (hV : ∀ g, V.ownBlock = some g → row ≠ some g) : RowV w' base TS V us :=
 World.ownsRow.kept (row := row) h hg (by
  cases hv : V.ownBlock with
  | none => exact .inl rfl
  | some g => exact .inr fun e => hV g hv e.symm)
theorem TabK.kept {T : TypeId} {w w' : World} {base : Nat} {TS : TypeId} {V : Value} {us : List Value} {pss : List (List Elt)} {row : Option Nat} (h : TabK T w base TS V us pss) (hg : w.grownBy w' row) (hV : ∀ g, V.ownBlock = some g → row ≠ some g) (hu : ∀ u ∈ us, ∀ g, u.ownBlock = some g → row ≠ some g) : TabK T w' base TS V us pss :=
 ⟨RowV.kept h.row hg hV, h.len, fun i u ps hi hp => (h.own i u ps hi hp).other hg (fun g e => hu u (List.mem_of_getElem? hi) g e), h.apart⟩
theorem TabK.below {T : TypeId} {w w' : World} {base : Nat} {TS : TypeId} {V : Value} {us : List Value} {pss : List (List Elt)} (h : TabK T w base TS V us pss) (hb : Below w.heap.size w w') : TabK T w' base TS V us pss :=
 ⟨h.row.below hb, h.len, fun i u ps hi hp => (h.own i u ps hi hp).below hb, h.apart⟩
theorem TabO.kept {k : IntKind} {B : Nat} {T : TypeId} {w w' : World} {base : Nat} {TS : TypeId} {V : Value} {us : List Value} {pss : List (List Elt)} {row : Option Nat} (h : TabO k B T w base TS V us pss) (hg : w.grownBy w' row) (hV : ∀ g, V.ownBlock = some g → row ≠ some g) (hu : ∀ u ∈ us, ∀ g, u.ownBlock = some g → row ≠ some g)
  (hf : ∀ ps ∈ pss, ∀ p ∈ ps, (∀ ad n c, p.2.1 = .slice (some ad) n c → 0 < n → some ad.block ≠ row) ∧ (∀ ad n c, p.2.2 = .slice (some ad) n c → 0 < n → some ad.block ≠ row)) : TabO k B T w' base TS V us pss := by
 have hk := h.k.kept hg hV hu
 refine ⟨hk.row, hk.len, hk.own, fun u hu' ps hp p hpp => ?_, fun ps hp p hpp => ?_, hk.apart⟩
 ·obtain ⟨e1, f1⟩ := h.far u hu' ps hp p hpp
  exact ⟨⟨e1.1.farKept (hf ps hp p hpp).1 hg, e1.2.farKept (hf ps hp p hpp).2 hg⟩, f1⟩
 ·obtain ⟨e1, f1⟩ := h.farV ps hp p hpp
  exact ⟨⟨e1.1.farKept (hf ps hp p hpp).1 hg, e1.2.farKept (hf ps hp p hpp).2 hg⟩, f1⟩
set_option linter.unusedSimpArgs false
theorem ArgT.shape {w : World} {v : Value} (h : ArgT w v) : ∃ A n c, v = .slice A n c ∧ n ≤ c ∧ c ≤ maxLen := by
 obtain ⟨A, n, c, e, h1, h2, _⟩ := h
 exact ⟨A, n, c, e, h1, h2⟩
theorem RowV.notV {w : World} {base base' : Nat} {TS TS' : TypeId} {V U : Value} {us vs : List Value} (h : RowV w base TS V us) (h' : RowV w base' TS' U vs) (hne : TS ≠ TS') : ∀ g, V.ownBlock = some g → U.ownBlock ≠ some g := by
 intro g e e2
 rcases h.2 with ⟨rfl, _⟩ | ⟨g', cap, cur, rfl, _, hg, _⟩
 ·cases e
 ·rcases h'.2 with ⟨rfl, _⟩ | ⟨g2, cap2, cur2, rfl, _, hg2, _⟩
  ·cases e2
  ·have e1 : g' = g := by simpa [Value.ownBlock] using e
   have e3 : g2 = g := by simpa [Value.ownBlock] using e2
   subst e1; subst e3
   rw [hg] at hg2
   injection hg2 with hg2
   injection hg2 with _ hg2
   exact hne hg2
theorem RowV.slice {w : World} {base : Nat} {TS : TypeId} {V : Value} {us : List Value} (h : RowV w base TS V us) : ∃ A c, V = .slice A us.length c := by
 rcases h.2 with ⟨e, h0⟩ | ⟨g, cap, cur, e, _⟩
 ·exact ⟨none, 0, by rw [e, h0]⟩
 ·exact ⟨_, _, e⟩
/-- A table of the call's own whose cells hold these values, and rows of the call's own that may be about to be stored. -/
structure TabJ (T : TypeId) (w : World) (base : Nat) (TS : TypeId) (V : Value) (us0 us : List Value) (pss : List (List Elt)) : Prop where
 row : RowV w base TS V us0
 len : us.length = pss.length
 own : ∀ (i : Nat) (u : Value) (ps : List Elt), us[i]? = some u → pss[i]? = some ps → RowF T w base u ps
 apart : ∀ (i j : Nat) (u v : Value), i ≠ j → us[i]? = some u → us[j]? = some v → ∀ h, u.ownBlock = some h → v.ownBlock ≠ some h
section
variable {T TS : TypeId} {w w1 : World} {base : Nat} {V : Value} {us0 us : List Value} {pss : List (List Elt)}
theorem TabJ.kept {row : Option Nat} (h : TabJ T w base TS V us0 us pss) (hg : w.grownBy w1 row) (hV : ∀ g, V.ownBlock = some g → row ≠ some g) (hu : ∀ u ∈ us, ∀ g, u.ownBlock = some g → row ≠ some g) : TabJ T w1 base TS V us0 us pss :=
 ⟨RowV.kept h.row hg hV, h.len, fun i u ps hi hp => (h.own i u ps hi hp).other hg (fun g e => hu u (List.mem_of_getElem? hi) g e), h.apart⟩
theorem TabJ.below (h : TabJ T w base TS V us0 us pss) (hb : Below w.heap.size w w1) : TabJ T w1 base TS V us0 us pss :=
 ⟨h.row.below hb, h.len, fun i u ps hi hp => (h.own i u ps hi hp).below hb, h.apart⟩
end
/-- Elements whose limbs lie elsewhere than all of these. -/
def Els (L : List Value) (w : World) (es : List Elt) : Prop := ∀ e ∈ es, IsE .u64 4294967296 w e ∧ ∀ v ∈ L, Far v e.2.1 ∧ Far v e.2.2
theorem Els.below {L : List Value} {w w' : World} {es : List Elt} (h : Els L w es) (hb : Below w.heap.size w w') : Els L w' es := fun e he => ⟨⟨(h e he).1.1.below hb, (h e he).1.2.below hb⟩, (h e he).2⟩
theorem Els.kept {L : List Value} {w w1 : World} {es : List Elt} {u : Value} (h : Els L w es) (hu : u ∈ L) (hg : w.grownBy w1 u.ownBlock) : Els L w1 es := fun e he => by
 obtain ⟨e1, e2⟩ := h e he
 obtain ⟨f1, f2⟩ := e2 u hu
 exact ⟨⟨e1.1.farKept f1 hg, e1.2.farKept f2 hg⟩, e2⟩
section
variable {w wr w1 : World} {V U : Value} {us0 us vs0 vs : List Value} {pss qss : List (List Elt)}
end
theorem addr_plus (g o i : Nat) : (⟨g, o, none⟩ : Addr).add i = ⟨g, o + i, none⟩ := by
 unfold Addr.add
 by_cases h : i = 0
 ·simp [h]
 ·simp [h]
/-- No row lies in such a block. -/
def OffU (us : List Value) (G : Nat → Prop) : Prop := ∀ u ∈ us, ∀ g, u.ownBlock = some g → ¬ G g
theorem grown_refl (w : World) (row : Option Nat) : w.grownBy w row := below_none (Below.refl _ w) row
/-- A row of the call's own, whose block holds but cells of a sort. -/
def RowX (S : Value → Prop) (w : World) (base : Nat) (e : TypeId) (v : Value) (vs : List Value) : Prop := RowV w base e v vs ∧ ∀ g, v.ownBlock = some g → ∃ cs, w.heap[g]? = some (.cells cs e (0, 0)) ∧ ∀ c ∈ cs, S c
theorem RowX.grown {S : Value → Prop} {w w' : World} {base : Nat} {e : TypeId} {v : Value} {vs : List Value} {row : Option Nat} (h : RowX S w base e v vs) (hg : w.grownBy w' row) (hne : ∀ g, v.ownBlock = some g → row ≠ some g) : RowX S w' base e v vs := by
 refine ⟨RowV.kept h.1 hg hne, fun g e1 => ?_⟩
 obtain ⟨cs, h1, h2⟩ := h.2 g e1
 exact ⟨cs, (hg.block g (h.1.under g e1) (fun e2 => hne g e1 e2.symm)).trans h1, h2⟩
theorem RowX.below {S : Value → Prop} {w w' : World} {base : Nat} {e : TypeId} {v : Value} {vs : List Value} (h : RowX S w base e v vs) (hb : Below w.heap.size w w') : RowX S w' base e v vs := by
 refine ⟨h.1.below hb, fun g e1 => ?_⟩
 obtain ⟨cs, h1, h2⟩ := h.2 g e1
 exact ⟨cs, (hb.block g (h.1.under g e1)).trans h1, h2⟩
section
variable {P : Program}
end
/-- What was laid since is written: what was there stays. -/
theorem grown_new {w w1 w2 : World} {row : Option Nat} {g : Nat} (h : w.grownBy w1 row) (h2 : w1.grownBy w2 (some g)) (hg : w.heap.size ≤ g) : w.grownBy w2 row := by
 refine ⟨h2.os.trans h.os, h2.tape.trans h.tape, h2.output.trans h.output, Nat.le_trans h.size h2.size, fun k hk hne => ?_⟩
 rw [h2.block k (Nat.lt_of_lt_of_le hk h.size) (fun e => by injection e with e; omega)]
 exact h.block k hk hne
theorem OffU.set {us : List Value} {G : Nat → Prop} (h : OffU us G) {u : Value} (hu : ∀ g, u.ownBlock = some g → ¬ G g) (i : Nat) : OffU (us.set i u) G := fun x hx g hg => by
 rcases List.mem_or_eq_of_mem_set hx with hx | rfl
 ·exact h x hx g hg
 ·exact hu g hg
/-- The value reads as these whole numbers, with limbs of this kind. -/
def SlZ (k : IntKind) (B : Nat) (w : World) (v : Value) (zs : List Int) : Prop := ∃ A c, v = .slice A zs.length c ∧ zs.length ≤ c ∧ c ≤ maxLen ∧ ∀ (i : Nat) (z : Int), zs[i]? = some z → ∃ g o u, A = some ⟨g, o, none⟩ ∧ w.cell? ⟨g, o + i * 2, none⟩ = some (.bool (ngB z)) ∧ w.cell? ⟨g, o + i * 2 + 1, none⟩ = some u ∧ IsS w k u (digs B z.natAbs)
theorem SlZ.below {k : IntKind} {B : Nat} {w w' : World} {v : Value} {zs : List Int} (h : SlZ k B w v zs) (hb : Below w.heap.size w w') : SlZ k B w' v zs := by
 obtain ⟨A, c, e, h1, h2, h3⟩ := h
 refine ⟨A, c, e, h1, h2, fun i z hz => ?_⟩
 obtain ⟨g, o, u, e2, c0, c1, s⟩ := h3 i z hz
 exact ⟨g, o, u, e2, (hb.cell (World.block_lt_of_cell? w _ c0)).trans c0, (hb.cell (World.block_lt_of_cell? w _ c1)).trans c1, s.below hb⟩
theorem SlZ.shape {k : IntKind} {B : Nat} {w : World} {v : Value} {zs : List Int} (h : SlZ k B w v zs) : ∃ A c, v = .slice A zs.length c ∧ zs.length ≤ c ∧ c ≤ maxLen := by
 obtain ⟨A, c, e, h1, h2, _⟩ := h
 exact ⟨A, c, e, h1, h2⟩
/-- One of them. -/
theorem SlZ.at_ {k : IntKind} {B : Nat} {w : World} {A : Option Addr} {n c : Nat} {zs : List Int} {i : Nat} {z : Int} (h : SlZ k B w (.slice A n c) zs) (hz : zs[i]? = some z) : ∃ g o u, A = some ⟨g, o, none⟩ ∧ i < n ∧ w.cell? ⟨g, o + i * 2, none⟩ = some (.bool (ngB z)) ∧ w.cell? ⟨g, o + i * 2 + 1, none⟩ = some u ∧ IsS w k u (digs B z.natAbs) := by
 obtain ⟨A', c', e, h1, h2, h3⟩ := h
 injection e with e1 e2 e3
 subst e1; subst e2; subst e3
 obtain ⟨g, o, u, e4, c0, c1, s⟩ := h3 i z hz
 exact ⟨g, o, u, e4, (List.getElem?_eq_some_iff.1 hz).1, c0, c1, s⟩
theorem SlZ.at2 {k : IntKind} {B : Nat} {w : World} {g o n c : Nat} {zs : List Int} {i : Nat} {z : Int} (h : SlZ k B w (.slice (some ⟨g, o, none⟩) n c) zs) (hz : zs[i]? = some z) : ∃ u, i < n ∧ w.cell? ⟨g, o + i * 2, none⟩ = some (.bool (ngB z)) ∧ w.cell? ⟨g, o + i * 2 + 1, none⟩ = some u ∧ IsS w k u (digs B z.natAbs) := by
 obtain ⟨g', o', u, hA, h1, h2, h3, h4⟩ := h.at_ hz
 injection hA with hA
 injection hA with e1 e2
 subst e1
 subst e2
 exact ⟨u, h1, h2, h3, h4⟩
/-- A row that holds something has a place. -/
theorem SlZ.place {k : IntKind} {B : Nat} {w : World} {A : Option Addr} {n c : Nat} {zs : List Int} (h : SlZ k B w (.slice A n c) zs) (hne : zs ≠ []) : ∃ g o, A = some ⟨g, o, none⟩ ∧ g < w.heap.size := by
  cases zs with
  | nil => exact absurd rfl hne
  | cons z zs =>
    obtain ⟨g, o, u, rfl, _, hc, _⟩ := h.at_ (i := 0) (z := z) rfl
    exact ⟨g, o, rfl, World.block_lt_of_cell? w _ hc⟩
theorem slZ_nil (k : IntKind) (B : Nat) (w : World) {A : Option Addr} {c : Nat} (hc : c ≤ maxLen) : SlZ k B w (.slice A 0 c) [] := ⟨A, c, rfl, Nat.zero_le _, hc, fun i z hz => by simp at hz⟩
theorem SlZ.any {k : IntKind} {B : Nat} {w w' : World} {v : Value} (h : SlZ k B w v []) : SlZ k B w' v [] := by
 obtain ⟨A, c, e, h1, h2, _⟩ := h
 exact ⟨A, c, e, h1, h2, fun i z hz => by simp at hz⟩
theorem SlZ.take {k : IntKind} {B : Nat} {w : World} {A : Option Addr} {n c : Nat} {zs : List Int} (h : SlZ k B w (.slice A n c) zs) {m : Nat} (hm : m ≤ zs.length) : SlZ k B w (.slice A m c) (zs.take m) := by
 obtain ⟨A', c', e, h1, h2, h3⟩ := h
 injection e with e1 e2 e3
 subst e1; subst e2; subst e3
 have hl : (zs.take m).length = m := by rw [List.length_take]; omega
 refine ⟨A, c, by rw [hl], by omega, h2, fun i z hz => h3 i z ?_⟩
 rw [List.getElem?_take] at hz
 split at hz
 ·exact hz
 ·cases hz
theorem SlZ.drop {k : IntKind} {B : Nat} {w : World} {g o n c : Nat} {zs : List Int} (h : SlZ k B w (.slice (some ⟨g, o, none⟩) n c) zs) {m : Nat} (hm : m ≤ zs.length) : SlZ k B w (.slice (some ⟨g, o + m * 2, none⟩) (n - m) (c - m)) (zs.drop m) := by
 obtain ⟨A', c', e, h1, h2, h3⟩ := h
 injection e with e1 e2 e3
 subst e1; subst e2; subst e3
 refine ⟨_, _, by rw [List.length_drop], by rw [List.length_drop]; omega, by omega, fun i z hz => ?_⟩
 rw [List.getElem?_drop] at hz
 obtain ⟨g', o', u, e4, c0, c1, s⟩ := h3 (m + i) z hz
 injection e4 with e4
 injection e4 with e5 e6
 subst e5; subst e6
 refine ⟨g, o + m * 2, u, rfl, ?_, ?_, s⟩
 ·rw [← c0]; congr 2; omega
 ·rw [← c1]; congr 2; omega
theorem index2 {P : Program} {t e : TypeId} (hu : P.underlying t = some (.slice e)) (hs : (P.info? e).map (·.size) = some 2) {g o n c k : Nat} (hk : k < n) (w : World) : (Instr.indexAt t (.slice (some ⟨g, o, none⟩) n c) (.int .i64 (k : Int))).run P w = .ok (.pointer (some ⟨g, o + k * 2, none⟩)) w := by
  cases hq : P.info? e with
  | none => simp [hq] at hs
  | some inf =>
    have hsz : inf.size = 2 := by simpa [hq] using hs
    simp [Instr.indexAt, asIntOf, go_sem, run_underlying hu, sizeOf, typeInfo, hq, hsz, hk]
/-- The block holds so many; the first ones read as these. -/
def RowI (w : World) (g n : Nat) (zs : List Int) : Prop := ∃ ps : List (Int × Value), ps.length = n ∧ zs.length ≤ n ∧ Blk w g 29 (flat ps).toArray ∧ (∀ p ∈ ps, ∃ A m c, p.2 = .slice A m c) ∧ ∀ (i : Nat) (z : Int), zs[i]? = some z → ∃ p, ps[i]? = some p ∧ p.1 = z ∧ IsS w .u64 p.2 (digs 4294967296 z.natAbs)
theorem RowI.below {w w' : World} {g n : Nat} {zs : List Int} (h : RowI w g n zs) (hb : Below w.heap.size w w') : RowI w' g n zs := by
 obtain ⟨ps, h1, h2, h3, h4, h5⟩ := h
 refine ⟨ps, h1, h2, h3.below hb, h4, fun i q hq => ?_⟩
 obtain ⟨p, k1, k2, k3⟩ := h5 i q hq
 exact ⟨p, k1, k2, k3.below hb⟩
theorem RowI.lt {w : World} {g n : Nat} {zs : List Int} (h : RowI w g n zs) : g < w.heap.size := by
 obtain ⟨ps, _, _, h3, _⟩ := h
 exact h3.lt
theorem flat_len (ps : List (Int × Value)) : (flat ps).length = ps.length * 2 := by
 induction ps with
 | nil => rfl
 | cons p ps ih => show (Value.bool (ngB p.1) :: p.2 :: flat ps).length = _; rw [List.length_cons, List.length_cons, ih, List.length_cons]; omega
theorem flat_cons (p : Int × Value) (ps : List (Int × Value)) : flat (p :: ps) = .bool (ngB p.1) :: p.2 :: flat ps := rfl
theorem flat_set : ∀ (ps : List (Int × Value)) (i : Nat) (p : Int × Value), ((flat ps).set (i * 2) (.bool (ngB p.1))).set (i * 2 + 1) p.2 = flat (ps.set i p)
  | [], i, p => by simp [flat]
  | q :: ps, 0, p => by
    rw [List.set_cons_zero, flat_cons, flat_cons]
    simp
  | q :: ps, i + 1, p => by
    have ih := flat_set ps i p
    rw [List.set_cons_succ, flat_cons, flat_cons, ← ih, show (i + 1) * 2 = i * 2 + 1 + 1 from by omega]
    simp
theorem no_ints_flat2 {k : IntKind} {ps : List (Int × Value)} (h4 : ∀ p ∈ ps, ∃ A m c, p.2 = .slice A m c) : ∀ c ∈ (flat ps).toArray, ∀ n, c ≠ .int k n := by
 intro c hc n
 obtain ⟨p, hp, hc⟩ := List.mem_flatMap.1 (List.mem_toArray.1 hc)
 obtain ⟨A, m, d, e1⟩ := h4 p hp
 simp only [e1, List.mem_cons, List.not_mem_nil, or_false] at hc
 rcases hc with rfl | rfl <;> simp
/-- A list of limbs is kept where the row is written. -/
theorem RowI.keep {w w' : World} {g n : Nat} {zs : List Int} {k : IntKind} {v : Value} {l : List Nat} (h : RowI w g n zs) (hg : w.grownBy w' (some g)) (hs : IsS w k v l) : IsS w' k v l := by
 obtain ⟨ps, _, _, h3, h4, _⟩ := h
 exact Go.Proofs.Yteijlcfhenlanaa.flow.off hs h3 (no_ints_flat2 h4) hg
/-- The cells of one of a row's places, whatever stands there. -/
theorem RowI.places {w : World} {g n i : Nat} {zs : List Int} (h : RowI w g n zs) (hi : i < n) : ∃ x y, w.cell? ⟨g, 0 + i * 2, none⟩ = some x ∧ w.cell? ⟨g, 0 + i * 2 + 1, none⟩ = some y ∧ w.frozen? ⟨g, 0 + i * 2, none⟩ = false ∧ w.frozen? ⟨g, 0 + i * 2 + 1, none⟩ = false := by
 obtain ⟨ps, h1, h2, h3, h4, h5⟩ := h
 obtain ⟨f0, f1⟩ := flat_at ps i _ (List.getElem?_eq_getElem (by omega))
 rw [Nat.zero_add]
 exact ⟨_, _, by rw [h3.cell, List.getElem?_toArray]; exact f0, by rw [h3.cell, List.getElem?_toArray]; exact f1, h3.frozen _, h3.frozen _⟩
/-- The next place is written. -/
theorem RowI.set2 {w : World} {g n : Nat} {zs : List Int} {z : Int} {u : Value} (h : RowI w g n zs) (hi : zs.length < n) (hu : IsS w .u64 u (digs 4294967296 z.natAbs)) :
  w.grownBy ((w.setCell ⟨g, 0 + zs.length * 2, none⟩ (.bool (ngB z))).setCell ⟨g, 0 + zs.length * 2 + 1, none⟩ u) (some g) ∧ RowI ((w.setCell ⟨g, 0 + zs.length * 2, none⟩ (.bool (ngB z))).setCell ⟨g, 0 + zs.length * 2 + 1, none⟩ u) g n (zs ++ [z]) := by
 have hg : w.grownBy ((w.setCell ⟨g, 0 + zs.length * 2, none⟩ (.bool (ngB z))).setCell ⟨g, 0 + zs.length * 2 + 1, none⟩ u) (some g) := (grown_set w g (0 + zs.length * 2) _).andThen (grown_set _ g (0 + zs.length * 2 + 1) _) (fun j e => .inr e)
 have keep := fun {k v l} => h.keep (k := k) (v := v) (l := l) hg
 obtain ⟨ps, h1, h2, h3, h4, h5⟩ := h
 refine ⟨hg, ps.set zs.length (z, u), by rw [List.length_set]; exact h1, by simp; omega, ?_, fun p hp => ?_, fun j x hx => ?_⟩
 ·have h6 := blk_set1 (blk_set1 h3 (i := 0 + zs.length * 2) (.bool (ngB z))) (i := 0 + zs.length * 2 + 1) u
  have e : (((flat ps).toArray).setIfInBounds (0 + zs.length * 2) (.bool (ngB z))).setIfInBounds (0 + zs.length * 2 + 1) u = (flat (ps.set zs.length (z, u))).toArray := by
   rw [← flat_set ps zs.length (z, u), Nat.zero_add]
   simp
  rw [e] at h6
  exact h6
 ·rcases List.mem_or_eq_of_mem_set hp with hp | rfl
  ·exact h4 p hp
  ·obtain ⟨A, c, e1, _⟩ := hu
   exact ⟨_, _, _, e1⟩
 ·by_cases hj : j = zs.length
  ·subst hj
   rw [List.getElem?_concat_length] at hx
   injection hx with hx
   subst hx
   exact ⟨_, List.getElem?_set_self (by omega), rfl, keep hu⟩
  ·have hl := (List.getElem?_eq_some_iff.1 hx).1
   rw [List.length_append, List.length_singleton] at hl
   rw [List.getElem?_append_left (by omega)] at hx
   obtain ⟨p, k1, k2, k3⟩ := h5 j x hx
   exact ⟨p, by rw [List.getElem?_set_ne (fun e => hj e.symm)]; exact k1, k2, keep k3⟩
/-- A full row is a slice of these. -/
theorem RowI.sl {w : World} {g n : Nat} {zs : List Int} (h : RowI w g n zs) (hn : zs.length = n) (hm : n ≤ 1000000000) : SlZ .u64 4294967296 w (.slice (some ⟨g, 0, none⟩) n n) zs := by
 obtain ⟨ps, h1, h2, h3, h4, h5⟩ := h
 refine ⟨some ⟨g, 0, none⟩, n, by rw [hn], by omega, by unfold maxLen; omega, fun i z hz => ?_⟩
 obtain ⟨p, k1, rfl, k3⟩ := h5 i z hz
 obtain ⟨f0, f1⟩ := flat_at ps i p k1
 refine ⟨g, 0, p.2, rfl, ?_, ?_, k3⟩
 ·rw [Nat.zero_add, h3.cell, List.getElem?_toArray]; exact f0
 ·rw [Nat.zero_add, h3.cell, List.getElem?_toArray]; exact f1
theorem made2 (n : Nat) : (madeCells #[.bool false, .slice none 0 0] (n * 2)).toList = flat (List.replicate n ((0, .slice none 0 0) : Int × Value)) := by
  have key : ∀ n j : Nat, (flat (List.replicate n ((0, .slice none 0 0) : Int × Value)))[j]? = if j < n * 2 then some ((#[.bool false, .slice none 0 0] : Array Value)[j % 2]?.getD undef) else none := by
    intro n
    induction n with
    | zero => intro j; simp [flat]
    | succ n ih =>
      intro j
      rw [List.replicate_succ, flat_cons]
      match j with
      | 0 => simp [ngB]
      | 1 => simp; omega
      | j + 2 =>
        rw [List.getElem?_cons_succ, List.getElem?_cons_succ, ih j]
        have h1 : (j + 2) % 2 = j % 2 := by omega
        rw [h1]
        by_cases h : j < n * 2
        · rw [if_pos h, if_pos (by omega)]
        · rw [if_neg h, if_neg (by omega)]
  apply List.ext_getElem?
  intro j
  rw [key n j]
  have h3 : j % 2 < 2 := Nat.mod_lt _ (by omega)
  by_cases h : j < n * 2
  · rw [if_pos h]
    rcases (by omega : j % 2 = 0 ∨ j % 2 = 1) with e | e <;> simp [madeCells, h, e]
  · rw [if_neg h]
    simp [madeCells, h]
theorem rowI_made {w : World} {g n : Nat} (h : Blk w g 29 (flat (List.replicate n ((0, .slice none 0 0) : Int × Value))).toArray) : RowI w g n [] :=
 ⟨_, List.length_replicate, Nat.zero_le _, h, fun p hp => by obtain rfl := (List.mem_replicate.1 hp).2; exact ⟨_, _, _, rfl⟩, fun i q hq => by simp at hq⟩
section
variable {P : Program}
theorem run_make_z {w : World} {t : TypeId} (ht : P.underlying t = some (.slice 29)) (hI : ∃ i, P.info? 29 = some i ∧ i.zero = some (.agg #[.bool false, .slice none 0 0]) ∧ i.size = 2 ∧ i.bytes = 32) (n : Nat) (hn : n ≤ 1000000000) :
  ∃ w', (Instr.makeSlice t (.int .i64 (n : Int)) (.int .i64 (n : Int))).run P w = .ok (.slice (some ⟨w.heap.size, 0, none⟩) n n) w' ∧ RowI w' w.heap.size n [] ∧ Below w.heap.size w w' := by
 obtain ⟨i, hi, hz, hs, hb⟩ := hI
 obtain ⟨w', h1, h2, h3⟩ := run_make_full (P := P) w w.heap.size t 29 i _ 2 ht hi hz hs .i64 .i64 n (by rw [hb]; omega) (by unfold maxLen; omega) (Nat.le_refl _)
 refine ⟨w', h1, rowI_made ?_, (Below.refl _ w).grown h3 (Nat.le_refl _) (fun g hg => by cases hg)⟩
 obtain ⟨hl, h2⟩ := h2
 rcases h2 with ⟨h4, _⟩ | ⟨g, cap, cur, h4, _, h5, _, _, h6, h7⟩
 ·cases h4
 ·injection h4 with h4 _ h8
  injection h4 with h4
  injection h4 with h4 _ _
  subst h4; subst h8
  rw [List.take_of_length_le (by simp [h6])] at h7
  have e : cur = (flat (List.replicate n ((0, .slice none 0 0) : Int × Value))).toArray := by
   rw [← made2]
   rw [show (Value.agg #[.bool false, .slice none 0 0]).cells = #[.bool false, .slice none 0 0] from rfl] at h7
   rw [← h7]
  rw [← e]
  exact h5
end
/-- A table of whole numbers. -/
def SlW (k : IntKind) (B : Nat) (w : World) (v : Value) (t : List (List Int)) : Prop := ∃ us : List Value, us.length = t.length ∧ (∃ A c, v = .slice A us.length c ∧ us.length ≤ c ∧ c ≤ maxLen ∧ ∀ (i : Nat) (u : Value), us[i]? = some u → ∃ ad, A = some ad ∧ w.cell? (ad.add i) = some u) ∧ ∀ (i : Nat) (u : Value) (r : List Int), us[i]? = some u → t[i]? = some r → SlZ k B w u r
theorem SlW.below {k : IntKind} {B : Nat} {w w' : World} {v : Value} {t : List (List Int)} (h : SlW k B w v t) (hb : Below w.heap.size w w') : SlW k B w' v t := by
 obtain ⟨us, hl, ⟨A, c, e, h1, h2, h3⟩, h4⟩ := h
 refine ⟨us, hl, ⟨A, c, e, h1, h2, fun i u hu => ?_⟩, fun i u r hu hr => (h4 i u r hu hr).below hb⟩
 obtain ⟨ad, ha, hc⟩ := h3 i u hu
 exact ⟨ad, ha, (hb.cell (World.block_lt_of_cell? w _ hc)).trans hc⟩
theorem SlW.shape {k : IntKind} {B : Nat} {w : World} {v : Value} {t : List (List Int)} (h : SlW k B w v t) : ∃ A c, v = .slice A t.length c ∧ t.length ≤ c ∧ c ≤ maxLen := by
 obtain ⟨us, hl, ⟨A, c, e, h1, h2, _⟩, _⟩ := h
 rw [hl] at e h1
 exact ⟨A, c, e, h1, h2⟩
theorem SlW.at_ {k : IntKind} {B : Nat} {w : World} {A : Option Addr} {n c i : Nat} {t : List (List Int)} {r : List Int} (h : SlW k B w (.slice A n c) t) (hr : t[i]? = some r) : ∃ ad Ar cr, A = some ad ∧ i < n ∧ w.cell? (ad.add i) = some (.slice Ar r.length cr) ∧ SlZ k B w (.slice Ar r.length cr) r := by
 obtain ⟨us, hl, ⟨A', c', e, h1, h2, h3⟩, h4⟩ := h
 injection e with e1 e2 e3
 subst e1; subst e2; subst e3
 have hi := (List.getElem?_eq_some_iff.1 hr).1
 obtain ⟨u, hu⟩ : ∃ u, us[i]? = some u := ⟨_, List.getElem?_eq_getElem (by omega)⟩
 obtain ⟨ad, ha, hc⟩ := h3 i u hu
 have hs := h4 i u r hu hr
 obtain ⟨Ar, cr, rfl, _⟩ := hs.shape
 exact ⟨ad, Ar, cr, ha, by omega, hc, hs⟩
theorem SlW.place {k : IntKind} {B : Nat} {w : World} {A : Option Addr} {n c : Nat} {t : List (List Int)} (h : SlW k B w (.slice A n c) t) (hne : t ≠ []) : ∃ ad, A = some ad := by
  cases t with
  | nil => exact absurd rfl hne
  | cons r t =>
    obtain ⟨ad, _, _, e, _⟩ := h.at_ (i := 0) (r := r) rfl
    exact ⟨ad, e⟩
theorem SlW.at2 {k : IntKind} {B : Nat} {w : World} {ad : Addr} {n c i : Nat} {t : List (List Int)} {r : List Int} (h : SlW k B w (.slice (some ad) n c) t) (hr : t[i]? = some r) : ∃ Ar cr, i < n ∧ w.cell? (ad.add i) = some (.slice Ar r.length cr) ∧ SlZ k B w (.slice Ar r.length cr) r := by
 obtain ⟨ad', Ar, cr, hA, h1, h2, h3⟩ := h.at_ hr
 injection hA with hA
 subst hA
 exact ⟨Ar, cr, h1, h2, h3⟩
/-- A table is written: what lies elsewhere stays. -/
theorem TabB.keepZ {w w' : World} {g : Nat} {TS : TypeId} {us : List Value} {k : IntKind} {B : Nat} {v : Value} {r : List Int} (h : TabB w g TS us) (hg : w.grownBy w' (some g)) (hs : SlZ k B w v r) : SlZ k B w' v r := by
 obtain ⟨A, c, e, h2, h3, h4⟩ := hs
 refine ⟨A, c, e, h2, h3, fun i z hz => ?_⟩
 obtain ⟨g', o, u, e2, c0, c1, s⟩ := h4 i z hz
 have hne : some g' ≠ some g := by
  intro e3
  injection e3 with e3
  subst e3
  rw [h.1.cell, List.getElem?_toArray] at c0
  obtain ⟨A', m, d, e4⟩ := h.2 _ (List.mem_of_getElem? c0)
  cases e4
 exact ⟨g', o, u, e2, hg.cell c0 hne, hg.cell c1 hne, h.keep hg s⟩
/-- A block of slices whose rows read as these. -/
def TabW (k : IntKind) (B : Nat) (w : World) (g : Nat) (TS : TypeId) (us : List Value) (t : List (List Int)) : Prop := TabB w g TS us ∧ us.length = t.length ∧ ∀ (i : Nat) (u : Value) (r : List Int), us[i]? = some u → t[i]? = some r → SlZ k B w u r
theorem TabW.below {k : IntKind} {B : Nat} {w w' : World} {g : Nat} {TS : TypeId} {us : List Value} {t : List (List Int)} (h : TabW k B w g TS us t) (hb : Below w.heap.size w w') : TabW k B w' g TS us t := ⟨h.1.below hb, h.2.1, fun i u r hu hr => (h.2.2 i u r hu hr).below hb⟩
theorem TabW.drew {k : IntKind} {B : Nat} {w : World} {g : Nat} {TS : TypeId} {us : List Value} {t : List (List Int)} (h : TabW k B w g TS us t) : TabW k B w.drew g TS us t := h.below (Below.refl _ w).drew
theorem TabW.lt {k : IntKind} {B : Nat} {w : World} {g : Nat} {TS : TypeId} {us : List Value} {t : List (List Int)} (h : TabW k B w g TS us t) : g < w.heap.size := h.1.lt
theorem TabW.put {k : IntKind} {B : Nat} {w w' : World} {g i : Nat} {TS : TypeId} {us : List Value} {t : List (List Int)} {u : Value} {r : List Int} (h : TabW k B w g TS us t) (hg : w.grownBy w' (some g)) (hB : w'.heap[g]? = some (.cells (us.toArray.setIfInBounds i u) TS (0, 0))) (hu : SlZ k B w u r) : TabW k B w' g TS (us.set i u) (t.set i r) := by
 obtain ⟨A, c, eu, _⟩ := hu.shape
 refine ⟨h.1.put hB ⟨_, _, _, eu⟩, by rw [List.length_set, List.length_set]; exact h.2.1, fun j x y hx hy => ?_⟩
 by_cases hj : i = j
 ·subst hj
  have hi : i < us.length := by have := (List.getElem?_eq_some_iff.1 hx).1; rwa [List.length_set] at this
  rw [List.getElem?_set_self hi] at hx
  rw [List.getElem?_set_self (by rw [← h.2.1]; exact hi)] at hy
  injection hx with hx
  injection hy with hy
  subst hx; subst hy
  exact h.1.keepZ hg hu
 ·rw [List.getElem?_set_ne hj] at hx hy
  exact h.1.keepZ hg (h.2.2 j x y hx hy)
theorem TabW.stored {k : IntKind} {B : Nat} {w : World} {g : Nat} {TS : TypeId} {us : List Value} {t : List (List Int)} (h : TabW k B w g TS us t) (i : Nat) {u : Value} {r : List Int} (hu : SlZ k B w u r) : TabW k B (w.setCell ⟨g, i, none⟩ u) g TS (us.set i u) (t.set i r) := h.put (grown_set w g i u) (heap_setCell h.1.1) hu
theorem TabW.at_ {k : IntKind} {B : Nat} {w : World} {g : Nat} {TS : TypeId} {us : List Value} {T : List (List Int)} (h : TabW k B w g TS us T) {i : Nat} {r : List Int} (hr : T[i]? = some r) : ∃ Ar cr, us[i]? = some (.slice Ar r.length cr) ∧ w.cell? ⟨g, i, none⟩ = some (.slice Ar r.length cr) ∧ SlZ k B w (.slice Ar r.length cr) r := by
 have hi := (List.getElem?_eq_some_iff.1 hr).1
 obtain ⟨u, hu⟩ : ∃ u, us[i]? = some u := ⟨_, List.getElem?_eq_getElem (by rw [h.2.1]; exact hi)⟩
 have hs := h.2.2 i u r hu hr
 obtain ⟨Ar, cr, rfl, _⟩ := hs.shape
 have hc := h.1.cell hu
 rw [addr_zero] at hc
 exact ⟨Ar, cr, hu, hc, hs⟩
theorem TabW.sub {k : IntKind} {B : Nat} {w : World} {g : Nat} {TS : TypeId} {us : List Value} {T : List (List Int)} (h : TabW k B w g TS us T) {o m c : Nat} (hm : o + m ≤ T.length) (hc : m ≤ c) (hx : c ≤ maxLen) : SlW k B w (.slice (some ⟨g, o, none⟩) m c) ((T.drop o).take m) := by
 have hl : ((us.drop o).take m).length = m := by rw [List.length_take, List.length_drop, h.2.1]; omega
 have hl2 : ((T.drop o).take m).length = m := by rw [List.length_take, List.length_drop]; omega
 refine ⟨(us.drop o).take m, by rw [hl, hl2], ⟨some ⟨g, o, none⟩, c, by rw [hl], by omega, hx, fun i u hu => ⟨_, rfl, ?_⟩⟩, fun i u r hu hr => ?_⟩
 ·have hi := (List.getElem?_eq_some_iff.1 hu).1
  rw [List.getElem?_take_of_lt (by omega), List.getElem?_drop] at hu
  have hc := h.1.cell hu
  rw [addr_zero] at hc
  rw [addr_plus]
  exact hc
 ·have hi := (List.getElem?_eq_some_iff.1 hu).1
  rw [List.getElem?_take_of_lt (by omega), List.getElem?_drop] at hu hr
  exact h.2.2 _ u r hu hr
def entI (T : List (List Int)) (i j : Nat) : Int := (T.getD i []).getD j 0
theorem entI_of {T : List (List Int)} {i j : Nat} {r : List Int} {z : Int} (hr : T[i]? = some r) (hz : r[j]? = some z) : entI T i j = z := by
 unfold entI
 rw [List.getD_eq_getElem?_getD, List.getD_eq_getElem?_getD, hr]
 show (r[j]?).getD 0 = z
 rw [hz]; rfl
def wideI (T : List (List Int)) : Nat := (T.getD 0 []).length
def evenI (T : List (List Int)) : Prop := T.length ≤ 100 ∧ ∀ r ∈ T, r.length = wideI T ∧ r.length ≤ 100
theorem index20 {P : Program} {t e : TypeId} (hu : P.underlying t = some (.slice e)) (hs : (P.info? e).map (·.size) = some 2) {g o n c : Nat} (hk : 0 < n) (w : World) : (Instr.indexAt t (.slice (some ⟨g, o, none⟩) n c) (.int .i64 0)).run P w = .ok (.pointer (some ⟨g, o, none⟩)) w := by
 have h := index2 hu hs (g := g) (o := o) (c := c) hk w
 rw [show o + 0 * 2 = o by omega] at h
 exact h
theorem ordz_zero (z : Int) : (ordz z 0 = 0) ↔ z = 0 := by
 unfold ordz
 split
 ·constructor <;> intro h <;> omega
 ·split <;> constructor <;> intro h <;> omega
def RetFirstI (L : List (List Int)) (w : World) (e : Ending) (w' : World) : Prop := ∃ k : Nat, e = .returned (.int .i64 (k : Int)) ∧ k ≤ L.length ∧ (∀ i, i < k → entI L i 0 = 0) ∧ (k < L.length → entI L k 0 ≠ 0) ∧ Below w.heap.size w w'
set_option maxHeartbeats 3200000 in
set_option maxRecDepth 100000 in
theorem bfirst_any (a0 : Value) (L : List (List Int)) (w : World) (h0 : SlW .u64 4294967296 w a0 L) (hl : ∀ r ∈ L, 0 < r.length) : Calls Try.prog 50 #[a0] w (RetFirstI L w) := by
 have st0 := h0
 obtain ⟨A0, c0, rfl, hc0, hm0⟩ := h0.shape
 unfold maxLen at hm0
 have HL := Lib.hid hl
 clear hl
 go_enter Try.func50, Try.ntmps50
 go_wp2
 go_loopw [6] (fun v6 wr => ∃ k : Nat, k ≤ L.length ∧ Hid (∀ i, i < k → entI L i 0 = 0) ∧ Below w.heap.size w wr ∧ v6 = .int .i64 (k : Int)) (fun v6 _ => L.length - (intOf v6).toNat)
 case atStart => exact ⟨0, by omega, (by show ∀ i, _; intro i hi; omega), Below.refl _ _, rfl⟩
 case round =>
  obtain ⟨k, hk, HZ, bb, rfl⟩ := hrel
  by_cases hlt : k < L.length
  ·obtain ⟨r, hr⟩ : ∃ r, L[k]? = some r := ⟨_, List.getElem?_eq_getElem hlt⟩
   have hal := HL.out r (List.mem_of_getElem? hr)
   obtain ⟨q, hq⟩ : ∃ q, r[0]? = some q := ⟨_, List.getElem?_eq_getElem hal⟩
   have he : Hid (entI L k 0 = q) := entI_of hr hq
   obtain ⟨ad, rfl⟩ := st0.place (List.length_pos_iff.1 (by omega))
   obtain ⟨Ar, cr, hik, ecr, sr⟩ := (st0.below bb).at2 hr
   obtain ⟨gr, or, u, rfl, hia, k0, k1, su⟩ := sr.at_ hq
   rw [show or + 0 * 2 = or by omega] at k0 k1
   obtain ⟨Au, cu, rfl, _⟩ := id su
   have hix := fun w => index20 (P := Try.prog) Try.underlying51 (by kernel_rfl) (g := gr) (o := or) (c := cr) hia w
   have kq : IsZ wr (.agg #[.bool (ngB q), .slice Au (digs 4294967296 q.natAbs).length cu]) q := ⟨_, rfl, su⟩
   obtain ⟨t, ht⟩ : ∃ t, t = ordz q 0 := ⟨_, rfl⟩
   have hz : t = 0 ↔ q = 0 := by rw [ht]; exact ordz_zero q
   have HT := Lib.hid ht
   clear hr hq ht sr
   go_wp2_with fail
   refine (sign_any _ q t _ kq HT.out).mono ?_
   rintro e w4 ⟨rfl, b4⟩
   have bb4 := bb.trans (b4.mono bb.size)
   by_cases hq0 : q = 0
   ·obtain rfl : t = 0 := hz.2 hq0
    have HZ2 : Hid (∀ i, i < k + 1 → entI L i 0 = 0) := by
     show ∀ i, _
     intro i hi
     by_cases e : i = k
     ·subst e; rw [he.out]; exact hq0
     ·exact HZ.out i (by omega)
    clear hz hq0 kq k0 k1
    go_wp2
    go_roundw
    case rel => exact ⟨k + 1, by omega, HZ2, bb4, by go_num⟩
    case measure => simp [intOf]; omega
   ·have hz1 : (t != 0) = true := by rw [bne_iff_ne]; exact fun e => hq0 (hz.1 e)
    have hz2 : ¬ t = 0 := fun e => hq0 (hz.1 e)
    have HN : Hid (entI L k 0 ≠ 0) := by show _ ≠ _; rw [he.out]; exact hq0
    clear hz hq0 kq k0 k1
    go_wp2
    go_ret
    exact ⟨k, rfl, by omega, HZ.out, fun _ => HN.out, bb4⟩
  ·obtain rfl : k = L.length := by omega
   go_wp2
   go_ret
   exact ⟨_, rfl, Nat.le_refl _, HZ.out, fun h => by omega, bb⟩
theorem evenI_take {T : List (List Int)} {k : Nat} {r : List Int} (h : ∀ x ∈ T.take k, x.length = wideI T ∧ x.length ≤ 100) (hr : T[k]? = some r) (h1 : r.length = wideI T) (h2 : r.length ≤ 100) : ∀ x ∈ T.take (k + 1), x.length = wideI T ∧ x.length ≤ 100 := by
 intro x hx
 rw [List.take_add_one, hr] at hx
 rcases List.mem_append.1 hx with hx | hx
 ·exact h x hx
 ·obtain rfl : x = r := by simpa using hx
  exact ⟨h1, h2⟩
set_option maxHeartbeats 3200000 in
set_option maxRecDepth 100000 in
theorem beven_any (a0 : Value) (T : List (List Int)) (w : World) (h0 : SlW .u64 4294967296 w a0 T) : Calls Try.prog 35 #[a0] w (fun e w' => (evenI T ∧ RetV (.bool true) w e w') ∨ (¬ evenI T ∧ RetV (.bool false) w e w')) := by
 have st0 := h0
 obtain ⟨A0, c0, rfl, hc0, hm0⟩ := h0.shape
 unfold maxLen at hm0
 go_enter Try.func35, Try.ntmps35
 by_cases h1 : 100 < T.length
 ·have h1' : (100 : Int) < ((T.length : Nat) : Int) := by omega
  go_wp2
  go_ret
  exact .inr ⟨fun h => by have := h.1; omega, rfl, Below.refl _ _⟩
 ·have h1' : ¬ (100 : Int) < ((T.length : Nat) : Int) := by omega
  go_wp2
  go_loopw [9] (fun v9 wr => ∃ k : Nat, k ≤ T.length ∧ Hid (∀ x ∈ T.take k, x.length = wideI T ∧ x.length ≤ 100) ∧ Below w.heap.size w wr ∧ v9 = .int .i64 (k : Int)) (fun v9 _ => T.length - (intOf v9).toNat)
  case atStart => exact ⟨0, by omega, (by show ∀ x ∈ _, _; intro x hx; simp at hx), Below.refl _ _, rfl⟩
  case round =>
   obtain ⟨k, hk, HE, bb, rfl⟩ := hrel
   by_cases hlt : k < T.length
   ·obtain ⟨r, hr⟩ : ∃ r, T[k]? = some r := ⟨_, List.getElem?_eq_getElem hlt⟩
    obtain ⟨r0, hr0⟩ : ∃ r0, T[0]? = some r0 := ⟨_, List.getElem?_eq_getElem (by omega)⟩
    have HW : Hid (wideI T = r0.length) := by show _ = _; unfold wideI; rw [List.getD_eq_getElem?_getD, hr0]; rfl
    have HR := Lib.hid hr
    obtain ⟨ad, rfl⟩ := st0.place (List.length_pos_iff.1 (by omega))
    obtain ⟨Ar, cr, hik, ecr, -⟩ := (st0.below bb).at2 hr
    obtain ⟨A1, c1, hi0, ec0, -⟩ := (st0.below bb).at2 hr0
    have ec0' : wr.cell? ad = some (.slice A1 r0.length c1) := by rw [← ec0]; congr 1
    clear hr hr0 ec0
    by_cases e1 : r.length = r0.length
    ·by_cases e2 : 100 < r.length
     ·have g1 : (((r.length : Nat) : Int) != ((r0.length : Nat) : Int)) = false := by rw [bne_eq_false_iff_eq]; omega
      have g2 : (100 : Int) < ((r.length : Nat) : Int) := by omega
      have HN : Hid (¬ evenI T) := fun h => by have := (h.2 r (List.mem_of_getElem? HR.out)).2; omega
      go_upto_region 6 with (fail)
      go_quiet (fail)
      go_wp2
      go_ret
      exact .inr ⟨HN.out, rfl, below_drewN bb _⟩
     ·have g1 : (((r.length : Nat) : Int) != ((r0.length : Nat) : Int)) = false := by rw [bne_eq_false_iff_eq]; omega
      have g2 : ¬ (100 : Int) < ((r.length : Nat) : Int) := by omega
      have HE2 : Hid (∀ x ∈ T.take (k + 1), x.length = wideI T ∧ x.length ≤ 100) := evenI_take HE.out HR.out (by rw [HW.out]; exact e1) (by omega)
      go_upto_region 6 with (fail)
      go_quiet (fail)
      go_wp2
      go_roundw
      case rel => exact ⟨k + 1, by omega, HE2, below_drewN bb _, by go_num⟩
      case measure => simp [intOf]; omega
    ·have g1 : (((r.length : Nat) : Int) != ((r0.length : Nat) : Int)) = true := by rw [bne_iff_ne]; omega
     have HN : Hid (¬ evenI T) := fun h => by have := (h.2 r (List.mem_of_getElem? HR.out)).1; have := HW.out; omega
     go_upto_region 6 with (fail)
     go_quiet (fail)
     go_wp2
     go_ret
     exact .inr ⟨HN.out, rfl, below_drewN bb _⟩
   ·obtain rfl : k = T.length := by omega
    go_wp2
    go_ret
    exact .inl ⟨⟨by omega, by have := HE.out; rwa [List.take_length] at this⟩, rfl, bb⟩
def squareI (T : List (List Int)) : Prop := T.length ≤ 100 ∧ ∀ r ∈ T, r.length = T.length
theorem squareI_iff (T : List (List Int)) : squareI T ↔ evenI T ∧ (T.length = 0 ∨ wideI T = T.length) := by
 constructor
 ·intro h
  by_cases h0 : T.length = 0
  ·obtain rfl := List.length_eq_zero_iff.1 h0
   exact ⟨⟨by simp, fun r hr => by cases hr⟩, .inl rfl⟩
  ·have hw : wideI T = T.length := by
    unfold wideI
    have e : T[0]? = some (T[0]'(by omega)) := List.getElem?_eq_getElem (by omega)
    rw [List.getD_eq_getElem?_getD, e]
    exact h.2 _ (List.mem_of_getElem? e)
   exact ⟨⟨h.1, fun r hr => ⟨by rw [hw]; exact h.2 r hr, by rw [h.2 r hr]; exact h.1⟩⟩, .inr hw⟩
 ·rintro ⟨h1, h2⟩
  refine ⟨h1.1, fun r hr => ?_⟩
  rcases h2 with h2 | h2
  ·obtain rfl := List.length_eq_zero_iff.1 h2
   cases hr
  ·rw [(h1.2 r hr).1, h2]
set_option maxHeartbeats 3200000 in
set_option maxRecDepth 100000 in
theorem bsquare_any (a0 : Value) (T : List (List Int)) (w : World) (h0 : SlW .u64 4294967296 w a0 T) : Calls Try.prog 26 #[a0] w (fun e w' => (squareI T ∧ RetV (.bool true) w e w') ∨ (¬ squareI T ∧ RetV (.bool false) w e w')) := by
 have st0 := h0
 obtain ⟨A0, c0, rfl, hc0, hm0⟩ := h0.shape
 unfold maxLen at hm0
 go_enter Try.func26, Try.ntmps26
 go_wp2_with fail
 refine (beven_any _ T _ st0).mono ?_
 rintro e w2 (⟨hE, rfl, b2⟩ | ⟨hE, rfl, b2⟩)
 ·have HE := Lib.hid hE
  clear hE
  by_cases hn : T.length = 0
  ·have hn' : (((T.length : Nat) : Int) == 0) = true := by rw [beq_iff_eq]; omega
   have hn2 : ((T.length : Nat) : Int) = 0 := by omega
   have HS : Hid (squareI T) := (squareI_iff T).2 ⟨HE.out, .inl hn⟩
   go_wp2
   go_ret
   exact .inl ⟨HS.out, rfl, b2⟩
  ·obtain ⟨r0, hr0⟩ : ∃ r0, T[0]? = some r0 := ⟨_, List.getElem?_eq_getElem (by omega)⟩
   have hn' : (((T.length : Nat) : Int) == 0) = false := by rw [beq_eq_false_iff_ne]; omega
   have hn2 : ¬ ((T.length : Nat) : Int) = 0 := by omega
   have HW : Hid (wideI T = r0.length) := by show _ = _; unfold wideI; rw [List.getD_eq_getElem?_getD, hr0]; rfl
   obtain ⟨ad, rfl⟩ := st0.place (List.length_pos_iff.1 (by omega))
   obtain ⟨A1, c1, hi0, ec0, -⟩ := (st0.below b2).at2 hr0
   have ec0' : w2.cell? ad = some (.slice A1 r0.length c1) := by rw [← ec0]; congr 1
   clear hr0 ec0
   by_cases hs : r0.length = T.length
   ·have g1 : (((r0.length : Nat) : Int) == ((T.length : Nat) : Int)) = true := by rw [beq_iff_eq]; omega
    have HS : Hid (squareI T) := (squareI_iff T).2 ⟨HE.out, .inr (by rw [HW.out]; exact hs)⟩
    go_wp2
    go_ret
    exact .inl ⟨HS.out, by simp [g1], b2⟩
   ·have g1 : (((r0.length : Nat) : Int) == ((T.length : Nat) : Int)) = false := by rw [beq_eq_false_iff_ne]; omega
    have HS : Hid (¬ squareI T) := fun h => by
     rcases ((squareI_iff T).1 h).2 with h | h
     ·exact hn h
     ·exact hs (by rw [← HW.out]; exact h)
    go_wp2
    go_ret
    exact .inr ⟨HS.out, by simp [g1], b2⟩
 ·have HS : Hid (¬ squareI T) := fun h => hE ((squareI_iff T).1 h).1
  clear hE
  go_wp2
  go_ret
  exact .inr ⟨HS.out, rfl, b2⟩
theorem load2 {P : Program} {t : TypeId} {g o : Nat} {x y : Value} {d : TypeDesc} {w : World} (hu : P.underlying t = some d) (hd : d.isRow = true) (hi : (P.info? t).map (·.size) = some 2) (h0 : w.cell? ⟨g, o, none⟩ = some x) (h1 : w.cell? ⟨g, o + 1, none⟩ = some y) : (Instr.loadAt t (.pointer (some ⟨g, o, none⟩))).run P w = .ok (.agg #[x, y]) w :=
 run_loadAt_mid w g o t [x, y] d (fun j v hj => by
  match j, hj with
  | 0, hj => simp at hj; subst hj; exact h0
  | 1, hj => simp at hj; subst hj; exact h1
  | j + 2, hj => simp at hj) hu hd hi
theorem indexI {P : Program} {t e : TypeId} (hu : P.underlying t = some (.slice e)) (hs : (P.info? e).map (·.size) = some 2) {g n c k : Nat} (hk : k < n) (w : World) : (Instr.indexAt t (.slice (some ⟨g, 0, none⟩) n c) (.int .i64 (k : Int))).run P w = .ok (.pointer (some ⟨g, k * 2, none⟩)) w := by
 have h := index2 (P := P) hu hs (g := g) (o := 0) (c := c) hk w
 rw [Nat.zero_add] at h
 exact h
theorem no_ints2 {k : IntKind} {b : Bool} {A : Option Addr} {n c : Nat} : ∀ x ∈ (#[.bool b, .slice A n c] : Array Value), ∀ m, x ≠ .int k m := by
 intro x hx m
 have : x = .bool b ∨ x = .slice A n c := by simpa using hx
 rcases this with rfl | rfl <;> simp
/-- A row of these, made by the call. -/
def RetRI (zs : List Int) (w : World) (e : Ending) (w' : World) : Prop := ∃ g, e = .returned (.slice (some ⟨g, 0, none⟩) zs.length zs.length) ∧ RowI w' g zs.length zs ∧ w.heap.size ≤ g ∧ Below w.heap.size w w'
/-- What step makes of a row: over the number, that leaves nothing. -/
def Crs (p q zs : List Int) (D : Int) : Prop := ∀ j x, zs[j]? = some x → p.getD (j + 1) 0 * q.getD 0 0 - p.getD 0 0 * q.getD (j + 1) 0 = x * D
theorem getDI_of {p : List Int} {j : Nat} {x : Int} (h : p[j]? = some x) : p.getD j 0 = x := by rw [List.getD_eq_getElem?_getD, h]; rfl
set_option maxHeartbeats 6400000 in
set_option maxRecDepth 100000 in
theorem bstep_any (a0 a1 a2 : Value) (p q zs : List Int) (D : Int) (m : Nat) (w : World) (h0 : SlZ .u64 4294967296 w a0 p) (h1 : SlZ .u64 4294967296 w a1 q) (h2 : IsZ w a2 D) (hl : p.length = m + 1 ∧ q.length = m + 1 ∧ zs.length = m ∧ m ≤ 1000) (hc : Hid (D ≠ 0 ∧ (∀ z ∈ p, lenZ z ≤ 5000) ∧ (∀ z ∈ q, lenZ z ≤ 5000) ∧ lenZ D ≤ 5000 ∧ Crs p q zs D)) :
  Calls Try.prog 51 #[a0, a1, a2] w (RetRI zs w) := by
 obtain ⟨hp, hq, hz, hm⟩ := hl
 have sp := h0
 have sq := h1
 obtain ⟨A0, c0, rfl, hc0, hm0⟩ := h0.shape
 obtain ⟨A1, c1, rfl, hc1, hm1⟩ := h1.shape
 obtain ⟨u2, rfl, s2⟩ := h2
 obtain ⟨A2, c2, rfl, _⟩ := id s2
 rw [hp] at sp hc0 ⊢
 rw [hq] at sq hc1 ⊢
 have HZ := Lib.hid hz
 have HP := Lib.hid (And.intro hp hq)
 clear h0 h1 hp hq hz hm0 hm1
 obtain ⟨mk, hmk⟩ := Classical.axiomOfChoice (fun w => run_make_z (P := Try.prog) (w := w) Try.underlying51 Go.Proofs.Yteijlcfhenlanaa.whl.info_int m (by omega))
 have hmk1 := fun w => (hmk w).1
 have HMK := Lib.hid (fun w => (hmk w).2)
 clear hmk
 have ba := below_alloc (w := w) (Nat.le_refl _) (.cells #[.bool (ngB D), .slice A2 (digs 4294967296 D.natAbs).length c2] 29)
 have B2 := Blk.new w 29 #[.bool (ngB D), .slice A2 (digs 4294967296 D.natAbs).length c2]
 have t2 := s2.below ba
 go_enter Try.func51, Try.ntmps51
 go_upto_region 1 with (fail)
 obtain ⟨wx, hwx⟩ : ∃ wx, wx = w.alloc (.cells #[.bool (ngB D), .slice A2 (digs 4294967296 D.natAbs).length c2] 29) := ⟨_, rfl⟩
 rw [← hwx] at ba B2 t2 ⊢
 clear hwx
 have hB2 := B2.lt
 obtain ⟨rm, bm⟩ := HMK.out wx
 have hgr : wx.heap.size < (mk wx).heap.size := rm.lt
 have bb0 := bm
 have hgw : w.heap.size ≤ wx.heap.size := ba.size
 have HBA := Lib.hid ba
 clear ba bm
 go_wp2
 go_loopw [16] (fun v16 wr => ∃ k : Nat, k ≤ m ∧ RowI wr wx.heap.size m (zs.take k) ∧ Hid (Below wx.heap.size wx wr) ∧ v16 = .int .i64 (k : Int)) (fun v16 _ => m - (intOf v16).toNat)
 case atStart => exact ⟨0, by omega, rm, bb0, rfl⟩
 case round =>
  clear rm bb0
  obtain ⟨k, hk, rk, HB, rfl⟩ := hrel
  obtain ⟨wi, hwi⟩ : ∃ wi, wi = wr := ⟨_, rfl⟩
  subst hwi
  by_cases hlt : k < m
  ·have hzl := HZ.out
   obtain ⟨z, hz⟩ : ∃ z, zs[k]? = some z := ⟨_, List.getElem?_eq_getElem (by omega)⟩
   obtain ⟨x0, hx0⟩ : ∃ x, p[0]? = some x := ⟨_, List.getElem?_eq_getElem (by have := HP.out; omega)⟩
   obtain ⟨x1, hx1⟩ : ∃ x, p[k + 1]? = some x := ⟨_, List.getElem?_eq_getElem (by have := HP.out; omega)⟩
   obtain ⟨y0, hy0⟩ : ∃ x, q[0]? = some x := ⟨_, List.getElem?_eq_getElem (by have := HP.out; omega)⟩
   obtain ⟨y1, hy1⟩ : ∃ x, q[k + 1]? = some x := ⟨_, List.getElem?_eq_getElem (by have := HP.out; omega)⟩
   have HX : Hid (x1 * y0 - x0 * y1 = z * D) := by
    have h := hc.out.2.2.2.2 k z hz
    rw [getDI_of hx0, getDI_of hx1, getDI_of hy0, getDI_of hy1] at h
    exact h
   have HT : Hid (zs.take (k + 1) = zs.take k ++ [z]) := by show _ = _; rw [List.take_add_one, hz]; rfl
   have HTL : Hid ((zs.take k).length = k) := by show _ = _; rw [List.length_take]; omega
   have l0 := hc.out.2.1 x0 (List.mem_of_getElem? hx0)
   have l1 := hc.out.2.1 x1 (List.mem_of_getElem? hx1)
   have l2 := hc.out.2.2.1 y0 (List.mem_of_getElem? hy0)
   have l3 := hc.out.2.2.1 y1 (List.mem_of_getElem? hy1)
   have hBw : Below w.heap.size w wi := HBA.out.trans (HB.out.mono HBA.out.size)
   obtain ⟨g0, o0, rfl, -⟩ := sp.place (fun e => by rw [e] at hx0; simp at hx0)
   obtain ⟨g1, o1, rfl, -⟩ := sq.place (fun e => by rw [e] at hy0; simp at hy0)
   obtain ⟨v0, i0, p00, p01, e0⟩ := (sp.below hBw).at2 hx0
   obtain ⟨v1, i1, p10, p11, e1⟩ := (sp.below hBw).at2 hx1
   obtain ⟨v2, i2, p20, p21, e2⟩ := (sq.below hBw).at2 hy0
   obtain ⟨v3, i3, p30, p31, e3⟩ := (sq.below hBw).at2 hy1
   rw [show o0 + 0 * 2 = o0 by omega] at p00 p01
   rw [show o1 + 0 * 2 = o1 by omega] at p20 p21
   obtain ⟨Av0, cv0, rfl, _⟩ := id e0
   obtain ⟨Av1, cv1, rfl, _⟩ := id e1
   obtain ⟨Av2, cv2, rfl, _⟩ := id e2
   obtain ⟨Av3, cv3, rfl, _⟩ := id e3
   have CX : ∀ w a b, IsZ w a x1 → IsZ w b y0 → Calls Try.prog 20 #[a, b] w (RetZ (x1 * y0) w) := fun w a b h1 h2 => zmul_any a b x1 y0 _ w h1 h2 (by omega) (by omega) rfl
   have CY : ∀ w a b, IsZ w a x0 → IsZ w b y1 → Calls Try.prog 20 #[a, b] w (RetZ (x0 * y1) w) := fun w a b h1 h2 => zmul_any a b x0 y1 _ w h1 h2 (by omega) (by omega) rfl
   have m1 := lenZ_mul_le l1 l2
   have m2 := lenZ_mul_le l0 l3
   have CS : ∀ w a b, IsZ w a (x1 * y0) → IsZ w b (x0 * y1) → Calls Try.prog 67 #[a, b] w (RetZ (x1 * y0 - x0 * y1) w) := fun w a b h1 h2 => zsub_any a _ b _ w h1 h2 (by omega) (by omega)
   have m3 := lenZ_sub_max m1 m2
   have CE : ∀ w a b, IsZ w a (x1 * y0 - x0 * y1) → IsZ w b D → Calls Try.prog 68 #[a, b] w (RetZE z 0 w) := fun w a b h1 h2 => zexact_ok a _ b _ z w h1 h2 (by omega) (by have := hc.out.2.2.2.1; omega) hc.out.1 HX.out
   obtain ⟨X, hX⟩ : ∃ X, X = x1 * y0 := ⟨_, rfl⟩
   obtain ⟨Y, hY⟩ : ∃ Y, Y = x0 * y1 := ⟨_, rfl⟩
   rw [← hX] at CX CS CE
   rw [← hY] at CY CS CE
   obtain ⟨Z, hZ⟩ : ∃ Z, Z = X - Y := ⟨_, rfl⟩
   rw [← hZ] at CS CE
   have kx0 : IsZ wi (.agg #[.bool (ngB x0), .slice Av0 (digs 4294967296 x0.natAbs).length cv0]) x0 := ⟨_, rfl, e0⟩
   have kx1 : IsZ wi (.agg #[.bool (ngB x1), .slice Av1 (digs 4294967296 x1.natAbs).length cv1]) x1 := ⟨_, rfl, e1⟩
   have ky0 : IsZ wi (.agg #[.bool (ngB y0), .slice Av2 (digs 4294967296 y0.natAbs).length cv2]) y0 := ⟨_, rfl, e2⟩
   have ky1 : IsZ wi (.agg #[.bool (ngB y1), .slice Av3 (digs 4294967296 y1.natAbs).length cv3]) y1 := ⟨_, rfl, e3⟩
   have hk1 : k + 1 < m + 1 := by omega
   have hm0 : 0 < m + 1 := by omega
   have hkn : k + 1 ≤ 9223372036854775807 := by omega
   clear hz hx0 hx1 hy0 hy1 hX hY hZ l0 l1 l2 l3 m1 m2 m3 e0 e1 e2 e3 hzl hBw
   go_upto_region 5 with (fail)
   go_cut [9] from 19 to 37 (fun s9 wx' => ∃ (g9 : Nat) (u9 : Value), s9 = .pointer (some ⟨g9, 0, none⟩) ∧ wi.heap.size ≤ g9 ∧ Blk wx' g9 29 #[.bool (ngB Z), u9] ∧ IsS wx' .u64 u9 (digs 4294967296 Z.natAbs) ∧ Hid (Below wi.heap.size wi wx'))
   case first =>
    refine flow 20 [Pd.eq (.slice (some ⟨g0, o0, none⟩) (m + 1) c0), Pd.eq (.int .i64 (k : Int)), Pd.eq (.int .i64 ((k + 1 : Nat) : Int)), Pd.eq (.pointer (some ⟨g0, o0 + (k + 1) * 2, none⟩)), Pd.eq (.agg #[.bool (ngB x1), .slice Av1 (digs 4294967296 x1.natAbs).length cv1]), Pd.eq (.slice (some ⟨g1, o1, none⟩) (m + 1) c1), Pd.eq (.pointer (some ⟨g1, o1 + 0 * 2, none⟩)), Pd.eq (.agg #[.bool (ngB y0), .slice Av2 (digs 4294967296 y0.natAbs).length cv2]), pz X wi.heap.size, Pd.eq (.slice (some ⟨g0, o0, none⟩) (m + 1) c0), Pd.eq (.pointer (some ⟨g0, o0 + 0 * 2, none⟩)), Pd.eq (.agg #[.bool (ngB x0), .slice Av0 (digs 4294967296 x0.natAbs).length cv0]), Pd.eq (.slice (some ⟨g1, o1, none⟩) (m + 1) c1), Pd.eq (.int .i64 (k : Int)), Pd.eq (.int .i64 ((k + 1 : Nat) : Int)), Pd.eq (.pointer (some ⟨g1, o1 + (k + 1) * 2, none⟩)), Pd.eq (.agg #[.bool (ngB y1), .slice Av3 (digs 4294967296 y1.natAbs).length cv3]), pz Y wi.heap.size, pz Z wi.heap.size, pn 29 #[.bool false, .slice none 0 0] wi.heap.size] (by kernel_rfl) (by kernel_rfl) ?ob1 ?done1
    case ob1 =>
     refine And.intro (ob_move rfl (wt_none rfl) (ev_far rfl rfl) (fun _ _ h => h)) ?_
     refine And.intro (ob_move rfl (wt_none rfl) (ev_far rfl rfl) (fun _ _ h => h)) ?_
     refine And.intro (ob_bin rfl (wt_none rfl) (ev_dep (j := 1) (by kernel_rfl) rfl rfl) (ev_const _) (fun _ _ _ hx hy => ⟨_, by rw [hx, hy]; exact bin_add_nat _ _ k 1 hkn _, rfl⟩)) ?_
     refine And.intro (ob_indexAddr rfl (wt_none rfl) (ev_dep (j := 0) (by kernel_rfl) rfl rfl) (ev_dep (j := 2) (by kernel_rfl) rfl rfl) (fun _ _ _ hx hy => ⟨_, by rw [hx, hy]; exact index2 Try.underlying51 (by kernel_rfl) hk1 _, rfl⟩)) ?_
     refine And.intro (ob_load rfl (wt_none rfl) (ev_dep (j := 3) (by kernel_rfl) rfl rfl) (fun w2 hb => load2 Try.underlying29 rfl (by kernel_rfl) ((hb.cell (World.block_lt_of_cell? wi _ p10)).trans p10) ((hb.cell (World.block_lt_of_cell? wi _ p11)).trans p11)) (fun _ _ => rfl)) ?_
     refine And.intro (ob_move rfl (wt_none rfl) (ev_far rfl rfl) (fun _ _ h => h)) ?_
     refine And.intro (ob_indexAddr rfl (wt_none rfl) (ev_dep (j := 5) (by kernel_rfl) rfl rfl) (ev_const _) (fun _ _ _ hx hy => ⟨_, by rw [hx, hy]; exact index2 (k := 0) Try.underlying51 (by kernel_rfl) hm0 _, rfl⟩)) ?_
     refine And.intro (ob_load rfl (wt_none rfl) (ev_dep (j := 6) (by kernel_rfl) rfl rfl) (fun w2 hb => load2 Try.underlying29 rfl (by kernel_rfl) ((hb.cell (World.block_lt_of_cell? wi _ p20)).trans p20) ((hb.cell (World.block_lt_of_cell? wi _ p21)).trans p21)) (fun _ _ => rfl)) ?_
     refine And.intro (ob_call2 rfl Try.func20 (by kernel_rfl) (wt_none rfl) (ev_dep (j := 4) (by kernel_rfl) rfl rfl) (ev_dep (j := 7) (by kernel_rfl) rfl rfl) (fun w2 u0 u1 hb h0 h1 => by obtain rfl := h0; obtain rfl := h1; exact (CX w2 _ _ (kx1.drew.below hb) (ky0.drew.below hb)).mono fun e w3 h => RetZ.pd h hb.size)) ?_
     refine And.intro (ob_move rfl (wt_none rfl) (ev_far rfl rfl) (fun _ _ h => h)) ?_
     refine And.intro (ob_indexAddr rfl (wt_none rfl) (ev_dep (j := 9) (by kernel_rfl) rfl rfl) (ev_const _) (fun _ _ _ hx hy => ⟨_, by rw [hx, hy]; exact index2 (k := 0) Try.underlying51 (by kernel_rfl) hm0 _, rfl⟩)) ?_
     refine And.intro (ob_load rfl (wt_none rfl) (ev_dep (j := 10) (by kernel_rfl) rfl rfl) (fun w2 hb => load2 Try.underlying29 rfl (by kernel_rfl) ((hb.cell (World.block_lt_of_cell? wi _ p00)).trans p00) ((hb.cell (World.block_lt_of_cell? wi _ p01)).trans p01)) (fun _ _ => rfl)) ?_
     refine And.intro (ob_move rfl (wt_none rfl) (ev_far rfl rfl) (fun _ _ h => h)) ?_
     refine And.intro (ob_move rfl (wt_none rfl) (ev_far rfl rfl) (fun _ _ h => h)) ?_
     refine And.intro (ob_bin rfl (wt_none rfl) (ev_dep (j := 13) (by kernel_rfl) rfl rfl) (ev_const _) (fun _ _ _ hx hy => ⟨_, by rw [hx, hy]; exact bin_add_nat _ _ k 1 hkn _, rfl⟩)) ?_
     refine And.intro (ob_indexAddr rfl (wt_none rfl) (ev_dep (j := 12) (by kernel_rfl) rfl rfl) (ev_dep (j := 14) (by kernel_rfl) rfl rfl) (fun _ _ _ hx hy => ⟨_, by rw [hx, hy]; exact index2 Try.underlying51 (by kernel_rfl) hk1 _, rfl⟩)) ?_
     refine And.intro (ob_load rfl (wt_none rfl) (ev_dep (j := 15) (by kernel_rfl) rfl rfl) (fun w2 hb => load2 Try.underlying29 rfl (by kernel_rfl) ((hb.cell (World.block_lt_of_cell? wi _ p30)).trans p30) ((hb.cell (World.block_lt_of_cell? wi _ p31)).trans p31)) (fun _ _ => rfl)) ?_
     refine And.intro (ob_call2 rfl Try.func20 (by kernel_rfl) (wt_none rfl) (ev_dep (j := 11) (by kernel_rfl) rfl rfl) (ev_dep (j := 16) (by kernel_rfl) rfl rfl) (fun w2 u0 u1 hb h0 h1 => by obtain rfl := h0; obtain rfl := h1; exact (CY w2 _ _ (kx0.drew.below hb) (ky1.drew.below hb)).mono fun e w3 h => RetZ.pd h hb.size)) ?_
     refine And.intro (ob_call2 rfl Try.func67 (by kernel_rfl) (wt_none rfl) (ev_dep (j := 8) (by kernel_rfl) rfl rfl) (ev_dep (j := 17) (by kernel_rfl) rfl rfl) (fun w2 u0 u1 hb h0 h1 => (CS w2 _ _ h0.1 h1.1).mono fun e w3 h => RetZ.pd h hb.size)) ?_
     refine And.intro (ob_alloc (z := .agg #[.bool false, .slice none 0 0]) rfl rfl (fun _ => by kernel_rfl) (fun _ _ hB h => ⟨_, rfl, hB, h⟩)) ?_
     trivial
    case done1 =>
     refine fun w7 hb7 v0 h0 v1 h1 v2 h2 v3 h3 v4 h4 v5 h5 v6 h6 v7 h7 v8 h8 v9 h9 v10 h10 v11 h11 v12 h12 v13 h13 v14 h14 v15 h15 v16 h16 v17 h17 v18 h18 v19 h19 d9 b hbf => ?_
     obtain rfl := h0; obtain rfl := h1; obtain rfl := h2; obtain rfl := h3; obtain rfl := h4; obtain rfl := h5; obtain rfl := h6; obtain rfl := h7
     obtain rfl := h9; obtain rfl := h10; obtain rfl := h11; obtain rfl := h12; obtain rfl := h13; obtain rfl := h14; obtain rfl := h15; obtain rfl := h16
     obtain ⟨g9, rfl, hg9, B9⟩ := h19
     obtain ⟨k18, f18⟩ := h18
     simp only [Act.put, List.setIfInBounds_toArray, List.set_cons_zero, List.set_cons_succ] at hbf
     subst hbf
     have bw7 : Below wi.heap.size wi w7 := (Below.refl wi.heap.size wi).trans (hb7.mono (Nat.le_refl _))
     obtain ⟨u8, rfl, s8⟩ := k18
     obtain ⟨A8, c8, rfl, _⟩ := id s8
     refine any_store (i := 20) (by kernel_rfl) rfl rfl rfl rfl rfl rfl (cells := [.bool (ngB Z), .slice A8 (digs 4294967296 Z.natAbs).length c8]) rfl B9 rfl (by kernel_rfl) (one2 rfl rfl) fun w10 hg10 BN => ?_
     have s10 := Go.Proofs.Yteijlcfhenlanaa.flow.off s8 B9 no_ints2 hg10
     have bw10 := bw7.grown hg10 bw7.size (fun k e => by injection e with e; omega)
     have HC := Lib.hid (And.intro bw10 s10)
     clear s8 B9 bw7 bw10 s10 h8 h17 f18 CX CY CS CE kx0 kx1 ky0 ky1 p00 p01 p10 p11 p20 p21 p30 p31
     refine any_done (by kernel_rfl) ?_
     go_wp2
     go_meet
     exact ⟨g9, _, rfl, hg9, BN, HC.out.2, HC.out.1⟩
   case rest =>
    obtain ⟨g9, u9, rfl, hg9, B9, s9, HB9⟩ := hcut
    obtain ⟨w7, hw7⟩ : ∃ w7, w7 = wc := ⟨_, rfl⟩
    subst hw7
    obtain ⟨A9, c9, rfl, _⟩ := id s9
    have rk7 := rk.below HB9.out
    have HB7 : Hid (Below wx.heap.size wx w7) := HB.out.trans (HB9.out.mono HB.out.size)
    have B27 := B2.below HB7.out
    have t27 := t2.below HB7.out
    obtain ⟨V0, V1, F0, F1⟩ := Blk.two B9
    obtain ⟨U0, U1, G0, G1⟩ := Blk.two B27
    have hix := fun w => indexI (P := Try.prog) Try.underlying51 (by kernel_rfl) (g := wx.heap.size) (c := m) hlt w
    clear B9 B27 HB HB9 CX CY CS kx0 kx1 ky0 ky1 p00 p01 p10 p11 p20 p21 p30 p31 rk
    go_wp2_with fail
    refine (CE _ _ _ ⟨_, rfl, s9⟩ ⟨_, rfl, t27⟩).mono ?_
    rintro e w8 ⟨v8, rfl, k8, -, b8⟩
    obtain ⟨u8, rfl, s8⟩ := k8
    obtain ⟨A8, c8, rfl, _⟩ := id s8
    have rk8 := rk7.below b8
    obtain ⟨X8, Y8, P0, P1, Q0, Q1⟩ := rk8.places hlt
    obtain ⟨G8, R8⟩ := rk8.set2 (by rw [HTL.out]; exact hlt) s8
    rw [HTL.out] at G8 R8
    rw [← HT.out] at R8
    rw [Nat.zero_add] at P0 P1 Q0 Q1 G8 R8
    have h8 := HB7.out.trans (b8.mono HB7.out.size)
    have h9 := h8.grown G8 h8.size (fun g e => by injection e with e; omega)
    have HB8 := Lib.hid h9
    clear h8 h9
    clear rk7 rk8 G8 HB7 V0 V1 F0 F1 U0 U1 G0 G1 s9 t27 s8 b8 CE
    go_wp2
    go_roundw
    case rel => exact ⟨k + 1, by omega, R8, HB8, by go_num⟩
    case measure => simp [intOf]; omega
  ·obtain rfl : k = m := by omega
   have hzt : zs.take k = zs := List.take_of_length_le (by rw [HZ.out]; exact Nat.le_refl _)
   rw [hzt] at rk
   go_wp2
   go_ret
   exact ⟨_, by rw [HZ.out]; rfl, by rw [HZ.out]; exact rk, hgw, HBA.out.trans (HB.out.mono HBA.out.size)⟩
def shI (T : List (List Int)) (n L : Nat) : Prop := T.length = n ∧ ∀ r ∈ T, r.length = L
theorem rowI_ex {T : List (List Int)} {n L i : Nat} (h : shI T n L) (hi : i < n) : ∃ r, T[i]? = some r ∧ r.length = L := by
 have e : T[i]? = some (T[i]'(by rw [h.1]; exact hi)) := List.getElem?_eq_getElem _
 exact ⟨_, e, h.2 _ (List.mem_of_getElem? e)⟩
theorem entI_row {T : List (List Int)} {i : Nat} {r : List Int} (hr : T[i]? = some r) (j : Nat) : entI T i j = r.getD j 0 := by
 have e : T.getD i [] = r := by rw [List.getD_eq_getElem?_getD, hr]; rfl
 unfold entI
 rw [e]
/-- After k steps the rows hold what stands from the place k on. -/
def BrT (n C k : Nat) (a : Nat → Nat → Int) (T : List (List Int)) (d : Int) : Prop := BrQ n C k a (fun i j => (entI T i (j - k) : Rat)) (d : Rat)
theorem BrQ.congr {n C k : Nat} {a : Nat → Nat → Int} {R R' : Nat → Nat → Rat} {d : Rat} (h : BrQ n C k a R d) (he : ∀ i j, i < n → k ≤ j → j < C → R i j = R' i j) : BrQ n C k a R' d :=
 ⟨h.le, h.wide, h.ne, h.det, fun i j hi hj hC => by
  have hk := h.le
  rw [h.rel i j hi hj hC, sumN_congr (g := fun c => (a i c : Rat) * R' c j) (fun c hc => by rw [he c j (by omega) hj hC])]
  split
  ·rw [he i j hi hj hC]
  ·rfl⟩
theorem BrT.start {n C : Nat} {T : List (List Int)} (h : n ≤ C) : BrT n C 0 (entI T) T 1 := (BrQ.start (entI T) h).congr fun i j _ _ _ => rfl
def stepZ (p q : List Int) (D : Int) : List Int := (List.range (p.length - 1)).map fun j => (p.getD (j + 1) 0 * q.getD 0 0 - p.getD 0 0 * q.getD (j + 1) 0) / D
theorem stepZ_len (p q : List Int) (D : Int) : (stepZ p q D).length = p.length - 1 := by unfold stepZ; rw [List.length_map, List.length_range]
theorem stepZ_at {p q : List Int} {D : Int} {j : Nat} (hj : j < p.length - 1) : (stepZ p q D)[j]? = some ((p.getD (j + 1) 0 * q.getD 0 0 - p.getD 0 0 * q.getD (j + 1) 0) / D) := by
 unfold stepZ
 rw [List.getElem?_map, List.getElem?_range hj]; rfl
/-- What each row becomes, but the pivot's own. -/
def nextT (T : List (List Int)) (k : Nat) (q : List Int) (D : Int) : List (List Int) := (List.range T.length).map fun i => if i = k then q else stepZ (T.getD i []) q D
theorem nextT_len (T : List (List Int)) (k : Nat) (q : List Int) (D : Int) : (nextT T k q D).length = T.length := by unfold nextT; rw [List.length_map, List.length_range]
theorem nextT_at {T : List (List Int)} {k i : Nat} {q r : List Int} {D : Int} (hr : T[i]? = some r) : (nextT T k q D)[i]? = some (if i = k then q else stepZ r q D) := by
 unfold nextT
 rw [List.getElem?_map, List.getElem?_range (List.getElem?_eq_some_iff.1 hr).1]
 show some (if i = k then q else stepZ (T.getD i []) q D) = _
 rw [List.getD_eq_getElem?_getD, hr]; rfl
/-- The first i of one, the rest of the other. -/
def mixT (T N : List (List Int)) (i : Nat) : List (List Int) := N.take i ++ T.drop i
theorem mixT_zero (T N : List (List Int)) : mixT T N 0 = T := by simp [mixT]
theorem mixT_all {T N : List (List Int)} (h : N.length = T.length) : mixT T N T.length = N := by
 unfold mixT
 rw [List.drop_eq_nil_of_le (Nat.le_refl _), List.append_nil, List.take_of_length_le (by omega)]
theorem mixT_at {T N : List (List Int)} {i : Nat} (h : N.length = T.length) (hi : i ≤ T.length) : (mixT T N i)[i]? = T[i]? := by
 unfold mixT
 have hl : (N.take i).length = i := by rw [List.length_take]; omega
 rw [List.getElem?_append_right (by omega), hl, Nat.sub_self, List.getElem?_drop, Nat.add_zero]
theorem mixT_len {T N : List (List Int)} {i : Nat} (h : N.length = T.length) (hi : i ≤ T.length) : (mixT T N i).length = T.length := by
 unfold mixT
 rw [List.length_append, List.length_take, List.length_drop]; omega
theorem mixT_set {T N : List (List Int)} {i : Nat} {r : List Int} (h : N.length = T.length) (hr : N[i]? = some r) : (mixT T N i).set i r = mixT T N (i + 1) := by
 have hi := (List.getElem?_eq_some_iff.1 hr).1
 unfold mixT
 have hl : (N.take i).length = i := by rw [List.length_take]; omega
 rw [List.set_append_right _ _ (by omega), hl, Nat.sub_self, List.drop_eq_getElem_cons (show i < T.length by omega), List.set_cons_zero, List.take_add_one, hr]
 simp
theorem mixT_keep {T N : List (List Int)} {i : Nat} {r : List Int} (h : N.length = T.length) (hr : N[i]? = some r) (hT : T[i]? = some r) : mixT T N (i + 1) = mixT T N i := by
 rw [← mixT_set h hr]
 refine List.ext_getElem? fun j => ?_
 by_cases e : j = i
 ·subst e
  have hi := (List.getElem?_eq_some_iff.1 hT).1
  rw [List.getElem?_set_self (by rw [mixT_len h (by omega)]; exact hi), mixT_at h (by omega), hT]
 ·rw [List.getElem?_set_ne (fun h => e h.symm)]
theorem intDiv_cast {x y z : Int} (hy : y ≠ 0) (h : (x : Rat) * (y : Rat)⁻¹ = (z : Rat)) : x = z * y ∧ x / y = z := by
 have hy' : (y : Rat) ≠ 0 := by rw [show (0 : Rat) = ((0 : Int) : Rat) by rfl]; exact fun e => hy (Rat.intCast_inj.1 e)
 have h1 := Rat.mul_inv_cancel _ hy'
 have h2 : (x : Rat) = ((z * y : Int) : Rat) := by rw [Rat.intCast_mul]; grind
 have h3 := Rat.intCast_inj.1 h2
 exact ⟨h3, by rw [h3]; exact Int.mul_ediv_cancel z hy⟩
theorem rat0 {z : Int} (h : z ≠ 0) : (z : Rat) ≠ 0 := fun e => h (Rat.intCast_inj.1 (by rw [e]; rfl))
theorem BrT.ne {n C k : Nat} {a : Nat → Nat → Int} {T : List (List Int)} {d : Int} (h : BrT n C k a T d) : d ≠ 0 := fun e => BrQ.ne h (by rw [e]; rfl)
section
variable {n C k : Nat} {a : Nat → Nat → Int} {T : List (List Int)} {d : Int} {q : List Int}
theorem BrT.stepQ (h : BrT n C k a T d) (hk : k < n) (hq : T[k]? = some q) (hp : q.getD 0 0 ≠ 0) : BrQ n C (k + 1) a (stepQ k (fun i j => (entI T i (j - k) : Rat)) (d : Rat)) ((q.getD 0 0 : Int) : Rat) := by
 have e : ((entI T k (k - k) : Int) : Rat) = ((q.getD 0 0 : Int) : Rat) := by rw [entI_row hq, Nat.sub_self]
 have h1 := BrQ.step h hk (by show ((entI T k (k - k) : Int) : Rat) ≠ 0; rw [e]; exact rat0 hp)
 rw [← e]
 exact h1
theorem BrT.num (h : BrT n C k a T d) (hk : k < n) (hq : T[k]? = some q) (hp : q.getD 0 0 ≠ 0) {i j : Nat} {r : List Int} (hi : i < n) (hr : T[i]? = some r) (hik : i ≠ k) (hj : j + 1 < C - k) :
  r.getD (j + 1) 0 * q.getD 0 0 - r.getD 0 0 * q.getD (j + 1) 0 = ((r.getD (j + 1) 0 * q.getD 0 0 - r.getD 0 0 * q.getD (j + 1) 0) / d) * d ∧ Go.Proofs.Yteijlcfhenlanaa.rat.stepQ k (fun i j => (entI T i (j - k) : Rat)) (d : Rat) i (j + 1 + k) = (((r.getD (j + 1) 0 * q.getD 0 0 - r.getD 0 0 * q.getD (j + 1) 0) / d : Int) : Rat) := by
 obtain ⟨z, hz⟩ := (h.stepQ hk hq hp).int hi (j := j + 1 + k) (by omega) (by omega)
 have e : Go.Proofs.Yteijlcfhenlanaa.rat.stepQ k (fun i j => (entI T i (j - k) : Rat)) (d : Rat) i (j + 1 + k) = ((r.getD (j + 1) 0 * q.getD 0 0 - r.getD 0 0 * q.getD (j + 1) 0 : Int) : Rat) * (d : Rat)⁻¹ := by
  unfold Go.Proofs.Yteijlcfhenlanaa.rat.stepQ
  rw [if_neg hik]
  show (((entI T i (j + 1 + k - k) : Int) : Rat) * ((entI T k (k - k) : Int) : Rat) - ((entI T i (k - k) : Int) : Rat) * ((entI T k (j + 1 + k - k) : Int) : Rat)) * (d : Rat)⁻¹ = _
  rw [entI_row hr, entI_row hr, entI_row hq, entI_row hq, Nat.sub_self, Nat.add_sub_cancel, Rat.intCast_sub, Rat.intCast_mul, Rat.intCast_mul]
 have h2 := intDiv_cast h.ne (e.symm.trans hz)
 exact ⟨by rw [h2.2]; exact h2.1, by rw [hz, h2.2]⟩
theorem BrT.crs (h : BrT n C k a T d) (hs : shI T n (C - k)) (hk : k < n) (hq : T[k]? = some q) (hp : q.getD 0 0 ≠ 0) {i : Nat} {r : List Int} (hr : T[i]? = some r) (hik : i ≠ k) : Crs r q (stepZ r q d) d := by
 intro j x hx
 have hi : i < n := by rw [← hs.1]; exact (List.getElem?_eq_some_iff.1 hr).1
 have hrl := hs.2 r (List.mem_of_getElem? hr)
 have hj := (List.getElem?_eq_some_iff.1 hx).1
 rw [stepZ_len] at hj
 rw [stepZ_at hj] at hx
 injection hx with hx
 rw [← hx]
 exact (h.num hk hq hp hi hr hik (by omega)).1
theorem next_sh (hs : shI T n (C - k)) (hq : T[k]? = some q) : shI ((nextT T k q d).set k (q.drop 1)) n (C - (k + 1)) := by
 refine ⟨by rw [List.length_set, nextT_len, hs.1], fun r hr => ?_⟩
 have hql := hs.2 q (List.mem_of_getElem? hq)
 obtain ⟨i, hi⟩ := List.mem_iff_getElem?.1 hr
 have hil := (List.getElem?_eq_some_iff.1 hi).1
 rw [List.length_set, nextT_len] at hil
 by_cases e : k = i
 ·subst e
  rw [List.getElem?_set_self (by rw [nextT_len]; exact hil)] at hi
  injection hi with hi
  rw [← hi, List.length_drop]; omega
 ·rw [List.getElem?_set_ne e, nextT_at (List.getElem?_eq_getElem hil), if_neg (fun h => e h.symm)] at hi
  injection hi with hi
  rw [← hi, stepZ_len, hs.2 _ (List.mem_of_getElem? (List.getElem?_eq_getElem hil))]; omega
theorem BrT.next (h : BrT n C k a T d) (hs : shI T n (C - k)) (hk : k < n) (hq : T[k]? = some q) (hp : q.getD 0 0 ≠ 0) : BrT n C (k + 1) a ((nextT T k q d).set k (q.drop 1)) (q.getD 0 0) := by
 refine (h.stepQ hk hq hp).congr fun i j hi hj hC => ?_
 show _ = ((entI ((nextT T k q d).set k (q.drop 1)) i (j - (k + 1)) : Int) : Rat)
 by_cases e : i = k
 ·subst e
  have h1 : ((nextT T i q d).set i (q.drop 1))[i]? = some (q.drop 1) := List.getElem?_set_self (by rw [nextT_len, hs.1]; exact hi)
  rw [entI_row h1]
  unfold Go.Proofs.Yteijlcfhenlanaa.rat.stepQ
  rw [if_pos rfl]
  show ((entI T i (j - i) : Int) : Rat) = _
  rw [entI_row hq, List.getD_eq_getElem?_getD, List.getD_eq_getElem?_getD, List.getElem?_drop, show 1 + (j - (i + 1)) = j - i by omega]
 ·obtain ⟨r, hr, hrl⟩ := rowI_ex hs hi
  have h1 : ((nextT T k q d).set k (q.drop 1))[i]? = some (stepZ r q d) := by
   rw [List.getElem?_set_ne (fun h => e h.symm), nextT_at hr, if_neg e]
  obtain ⟨m, rfl⟩ : ∃ m, j = m + 1 + k := ⟨j - 1 - k, by omega⟩
  have hz : (stepZ r q d).getD m 0 = (r.getD (m + 1) 0 * q.getD 0 0 - r.getD 0 0 * q.getD (m + 1) 0) / d := by
   rw [List.getD_eq_getElem?_getD, stepZ_at (by omega)]; rfl
  rw [entI_row h1, (h.num hk hq hp hi hr e (j := m) (by omega)).2, show m + 1 + k - (k + 1) = m by omega, hz]
theorem BrT.swap (h : BrT n C k a T d) {f : Nat} (hl : T.length = n) (hkf : k < f) (hf : f < n) {rk rf : List Int} (hrk : T[k]? = some rk) (hrf : T[f]? = some rf) : BrT n C k (fun i => if i = k then a f else if i = f then a k else a i) ((T.set k rf).set f rk) d := by
 refine (BrQ.swap h (Nat.le_of_lt hkf) hf).congr fun i j hi hj hC => ?_
 unfold swapF
 by_cases e1 : i = k
 ·subst e1
  have h1 : ((T.set i rf).set f rk)[i]? = some rf := by rw [List.getElem?_set_ne (by omega), List.getElem?_set_self (by omega)]
  rw [if_pos rfl, entI_row h1]
  show ((entI T f (j - i) : Int) : Rat) = _
  rw [entI_row hrf]
 ·by_cases e2 : i = f
  ·subst e2
   have h1 : ((T.set k rf).set i rk)[i]? = some rk := List.getElem?_set_self (by rw [List.length_set]; omega)
   rw [if_neg e1, if_pos rfl, entI_row h1]
   show ((entI T k (j - k) : Int) : Rat) = _
   rw [entI_row hrk]
  ·have h1 : ((T.set k rf).set f rk)[i]? = T[i]? := by rw [List.getElem?_set_ne (fun h => e2 h.symm), List.getElem?_set_ne (fun h => e1 h.symm)]
   rw [if_neg e1, if_neg e2]
   unfold entI
   rw [List.getD_eq_getElem?_getD (l := (T.set k rf).set f rk), h1, ← List.getD_eq_getElem?_getD]
theorem BrT.none (h : BrT n C k a T d) (hk : k < n) (h0 : ∀ i, k ≤ i → i < n → entI T i 0 = 0) : detF n (qF a) = 0 :=
 BrQ.none h hk fun i h1 h2 => by
  show ((entI T i (k - k) : Int) : Rat) = 0
  rw [Nat.sub_self, h0 i h1 h2]; rfl
end
/-- One table's rows, in another order: what row functions give of it. -/
structure Prm (n C : Nat) (a0 a : Nat → Nat → Int) (s : Rat) : Prop where
 one : s = 1 ∨ s = -1
 fn : ∀ f, RowFn n C f → f (qF a0) = s * f (qF a)
 all : ∀ P : (Nat → Int) → Prop, (∀ i, i < n → P (a i)) → ∀ i, i < n → P (a0 i)
theorem Prm.refl (n C : Nat) (a : Nat → Nat → Int) : Prm n C a a 1 := ⟨.inl rfl, fun f _ => by grind, fun P h => h⟩
theorem Prm.swap {n C k f : Nat} {a0 a : Nat → Nat → Int} {s : Rat} (h : Prm n C a0 a s) (hk : k < n) (hf : f < n) (hkf : k ≠ f) : Prm n C a0 (fun i => if i = k then a f else if i = f then a k else a i) (-s) := by
 refine ⟨?_, fun F hF => ?_, fun P hP => h.all P fun i hi => ?_⟩
 ·rcases h.one with e | e <;> rw [e]
  ·exact .inr rfl
  ·exact .inl (by grind)
 ·have e : F (qF fun i => if i = k then a f else if i = f then a k else a i) = F (swapF (qF a) k f) := hF.congr _ _ fun i j _ _ => by
   unfold swapF qF
   by_cases e1 : i = k
   ·simp only [if_pos e1]
   ·by_cases e2 : i = f
    ·simp only [if_neg e1, if_pos e2]
    ·simp only [if_neg e1, if_neg e2]
  rw [h.fn F hF, e, hF.swap (qF a) hk hf hkf]; grind
 ·by_cases e1 : i = k
  ·have := hP f hf
   simp only [if_neg (show ¬ f = k from fun h => hkf h.symm), if_true] at this
   rw [e1]; exact this
  ·by_cases e2 : i = f
   ·have := hP k hk
    simp only [if_true] at this
    rw [e2]; exact this
   ·have := hP i hi
    simp only [if_neg e1, if_neg e2] at this
    exact this
theorem RowFn.wide {n C : Nat} {f : (Nat → Nat → Rat) → Rat} (h : RowFn n n f) (hC : n ≤ C) : RowFn n C f := ⟨fun M M' he => h.congr M M' fun i j hi hj => he i j hi (by omega), h.scale, h.add⟩
/-- How many limbs. -/
def lenI (T : List (List Int)) (S : Nat) : Prop := ∀ r ∈ T, ∀ z ∈ r, lenZ z ≤ S
theorem lenI_step {p q : List Int} {D : Int} {S : Nat} (hD : D ≠ 0) (hC : Crs p q (stepZ p q D) D) (hp : ∀ z ∈ p, lenZ z ≤ S) (hq : ∀ z ∈ q, lenZ z ≤ S) : ∀ z ∈ stepZ p q D, lenZ z ≤ 2 * S + 1 := by
 intro z hz
 obtain ⟨j, hj⟩ := List.mem_iff_getElem?.1 hz
 have h1 := hC j z hj
 have g : ∀ (l : List Int) (i : Nat), (∀ z ∈ l, lenZ z ≤ S) → lenZ (l.getD i 0) ≤ S := fun l i h => by
  rw [List.getD_eq_getElem?_getD]
  cases e : l[i]? with
  | none => show lenZ 0 ≤ S; unfold lenZ; rw [Int.natAbs_zero, digs_zero]; exact Nat.zero_le _
  | some x => exact h x (List.mem_of_getElem? e)
 have m1 := lenZ_mul_le (g p (j + 1) hp) (g q 0 hq)
 have m2 := lenZ_mul_le (g p 0 hp) (g q (j + 1) hq)
 have m3 := lenZ_sub_max m1 m2
 rw [h1] at m3
 have h2 : z.natAbs ≤ (z * D).natAbs := by
  rw [Int.natAbs_mul]
  exact Nat.le_mul_of_pos_right _ (by omega)
 have h3 : lenZ z ≤ lenZ (z * D) := digs_len_mono (by omega) h2
 omega
/-! What is kept in memory. -/
theorem SlZ.off {k : IntKind} {B : Nat} {w w' : World} {v : Value} {zs : List Int} {g : Nat} {e : TypeId} {cs : Array Value} (h : SlZ k B w v zs) (hB : w.heap[g]? = some (.cells cs e (0, 0))) (hno : ∀ c ∈ cs, ∀ n, c ≠ .int k n) (hg : w.grownBy w' (some g)) (hne : v.ownBlock ≠ some g) : SlZ k B w' v zs := by
 obtain ⟨A, c, rfl, h2, h3, h4⟩ := h
 refine ⟨A, c, rfl, h2, h3, fun i z hz => ?_⟩
 obtain ⟨g', o, u, rfl, c0, c1, s⟩ := h4 i z hz
 have hne' : some g' ≠ some g := fun e => hne (by simpa [Value.ownBlock] using e)
 exact ⟨g', o, u, rfl, hg.cell c0 hne', hg.cell c1 hne', Go.Proofs.Yteijlcfhenlanaa.flow.off s hB hno hg⟩
theorem TabW.offZ {w w' : World} {g gx : Nat} {TS t : TypeId} {us : List Value} {T : List (List Int)} {a b : Value} (h : TabW .u64 4294967296 w g TS us T) (hB : Blk w gx t #[a, b]) (hno : ∀ x ∈ (#[a, b] : Array Value), ∀ n, x ≠ .int .u64 n) (hne : TS ≠ t) (hg : w.grownBy w' (some gx)) (hoff : ∀ u ∈ us, u.ownBlock ≠ some gx) : TabW .u64 4294967296 w' g TS us T := by
 have hgx : g ≠ gx := fun e => by
  have h1 := h.1.1
  unfold Blk at h1 hB
  rw [e, hB] at h1
  injection h1 with h1
  injection h1 with _ h1
  exact hne h1.symm
 exact ⟨h.1.grown hg (fun e => hgx (by injection e with e; exact e.symm)), h.2.1, fun i u r hu hr => (h.2.2 i u r hu hr).off hB hno hg (hoff u (List.mem_of_getElem? hu))⟩
/-- 'row[1:]'. -/
theorem SlZ.cut1 {w : World} {g o n c : Nat} {A : Option Addr} {zs : List Int} (h : SlZ .u64 4294967296 w (.slice (some ⟨g, o, none⟩) n c) zs) (hn : 1 ≤ zs.length) (hA : A = if c = 1 then some ⟨g, o, none⟩ else some ⟨g, o + 2, none⟩) : SlZ .u64 4294967296 w (.slice A (n - 1) (c - 1)) (zs.drop 1) := by
 obtain ⟨A0, c0, e, h1, h2⟩ := h.shape
 injection e with e1 e2 e3
 subst e3
 by_cases hc : c = 1
 ·rw [if_pos hc] at hA
  have hz : zs.drop 1 = [] := List.drop_eq_nil_of_le (by omega)
  rw [hz, show n - 1 = 0 by omega]
  exact slZ_nil _ _ _ (by omega)
 ·rw [if_neg hc] at hA
  rw [hA]
  exact h.drop hn
theorem blk_set2 {w : World} {g : Nat} {t : TypeId} {a b : Value} (h : Blk w g t #[a, b]) (x y : Value) : Blk ((w.setCell ⟨g, 0, none⟩ x).setCell ⟨g, 1, none⟩ y) g t #[x, y] := blk_set1 (blk_set1 h x) y
theorem grown_set2 (w : World) (g : Nat) (x y : Value) : w.grownBy ((w.setCell ⟨g, 0, none⟩ x).setCell ⟨g, 1, none⟩ y) (some g) := (grown_set w g 0 x).trans (grown_set _ g 1 y)
/-- A block of whole numbers that a call made. -/
def IsBk (w : World) (g : Nat) : Prop := ∃ cs, w.heap[g]? = some (.cells cs 29 (0, 0))
theorem IsBk.lt {w : World} {g : Nat} (h : IsBk w g) : g < w.heap.size := by
 obtain ⟨cs, h⟩ := h
 exact (Array.getElem?_eq_some_iff.1 h).1
theorem IsBk.frozen {w : World} {g : Nat} (h : IsBk w g) (o : Nat) : w.frozen? ⟨g, o, none⟩ = false := by
 obtain ⟨cs, h⟩ := h
 exact Blk.frozen (t := 29) (cs := cs) h o
theorem RowI.bk {w : World} {g n : Nat} {zs : List Int} (h : RowI w g n zs) : IsBk w g := by
 obtain ⟨ps, _, _, h3, _⟩ := h
 exact ⟨_, h3⟩
/-- What stays such a block from one world to another. -/
def Kp (w w' : World) : Prop := w.heap.size ≤ w'.heap.size ∧ ∀ g, IsBk w g → IsBk w' g
theorem Kp.trans {a b c : World} (h : Kp a b) (k : Kp b c) : Kp a c := ⟨Nat.le_trans h.1 k.1, fun g hg => k.2 g (h.2 g hg)⟩
theorem kp_below {w w' : World} (hb : Below w.heap.size w w') : Kp w w' := ⟨hb.size, fun g hg => by
 obtain ⟨cs, h⟩ := hg
 exact ⟨cs, Blk.below (t := 29) (cs := cs) h hb⟩⟩
theorem kp_set (w : World) (g o : Nat) (x : Value) : Kp w (w.setCell ⟨g, o, none⟩ x) := ⟨(grown_set w g o x).size, fun g' hg => by
 obtain ⟨cs, h⟩ := hg
 by_cases e : g' = g
 ·subst e
  exact ⟨_, heap_setCell h⟩
 ·exact ⟨cs, Blk.grown (t := 29) (cs := cs) h (grown_set w g o x) e⟩⟩
theorem kp_set2 (w : World) (g : Nat) (x y : Value) : Kp w ((w.setCell ⟨g, 0, none⟩ x).setCell ⟨g, 1, none⟩ y) := (kp_set w g 0 x).trans (kp_set _ g 1 y)
def Apt (w : World) (B : Nat) (us : List Value) : Prop := (∀ u ∈ us, ∀ g, u.ownBlock = some g → B ≤ g ∧ IsBk w g) ∧ ∀ (i j : Nat) (u v : Value), i ≠ j → us[i]? = some u → us[j]? = some v → ∀ g, u.ownBlock = some g → v.ownBlock ≠ some g
theorem Apt.grow {w w' : World} {B : Nat} {us : List Value} (h : Apt w B us) (hk : Kp w w') : Apt w' B us := ⟨fun u hu g e => ⟨(h.1 u hu g e).1, hk.2 g (h.1 u hu g e).2⟩, h.2⟩
/-- A row in another one's stead, in a block that no other row has. -/
theorem Apt.set {w : World} {B k : Nat} {us : List Value} {x : Value} (h : Apt w B us) (hx : ∀ g, x.ownBlock = some g → B ≤ g ∧ IsBk w g) (hn : ∀ (j : Nat) (v : Value), j ≠ k → us[j]? = some v → ∀ g, x.ownBlock = some g → v.ownBlock ≠ some g) : Apt w B (us.set k x) := by
 refine ⟨fun u hu g e => ?_, fun i j u v hij hu hv g e => ?_⟩
 ·rcases List.mem_or_eq_of_mem_set hu with hu | rfl
  ·exact h.1 u hu g e
  ·exact hx g e
 ·by_cases hi : k = i
  ·subst hi
   have hk := (List.getElem?_eq_some_iff.1 hu).1
   rw [List.length_set] at hk
   rw [List.getElem?_set_self hk] at hu
   injection hu with hu
   subst hu
   rw [List.getElem?_set_ne hij] at hv
   exact hn j v (fun e => hij e.symm) hv g e
  ·rw [List.getElem?_set_ne hi] at hu
   by_cases hj : k = j
   ·subst hj
    have hk := (List.getElem?_eq_some_iff.1 hv).1
    rw [List.length_set] at hk
    rw [List.getElem?_set_self hk] at hv
    injection hv with hv
    subst hv
    exact fun e2 => hn i u (fun e => hi e.symm) hu g e2 e
   ·rw [List.getElem?_set_ne hj] at hv
    exact h.2 i j u v hij hu hv g e
/-- A new row. -/
theorem Apt.newR {w : World} {B k : Nat} {us : List Value} {w0 : World} {x : Value} (h0 : Apt w0 B us) (hk : Kp w0 w) (hB : B ≤ w0.heap.size) (hx : ∀ g, x.ownBlock = some g → w0.heap.size ≤ g ∧ IsBk w g) : Apt w B (us.set k x) := by
 refine (h0.grow hk).set (fun g e => ⟨Nat.le_trans hB (hx g e).1, (hx g e).2⟩) (fun j v hj hv g e e2 => ?_)
 have h1 := (h0.1 v (List.mem_of_getElem? hv) g e2).2.lt
 have h2 := (hx g e).1
 omega
theorem Apt.new {w : World} {B k gn n c : Nat} {us : List Value} {w0 : World} (h0 : Apt w0 B us) (hk : Kp w0 w) (hs : w0.heap.size ≤ gn) (hB : B ≤ w0.heap.size) (hg : IsBk w gn) : Apt w B (us.set k (.slice (some ⟨gn, 0, none⟩) n c)) :=
 h0.newR hk hB fun g e => by
  obtain rfl : gn = g := by simpa [Value.ownBlock] using e
  exact ⟨hs, hg⟩
/-- A row cut: its block is the same. -/
theorem Apt.cut {w : World} {B k : Nat} {us : List Value} {x u : Value} (h : Apt w B us) (hu : us[k]? = some u) (hx : ∀ g, x.ownBlock = some g → u.ownBlock = some g) : Apt w B (us.set k x) :=
 h.set (fun g e => h.1 u (List.mem_of_getElem? hu) g (hx g e)) (fun j v hj hv g e => h.2 k j u v (fun e => hj e.symm) hu hv g (hx g e))
/-- Two rows change about. -/
theorem Apt.swap {w : World} {B k f : Nat} {us : List Value} {x y : Value} (h : Apt w B us) (hkf : k ≠ f) (hk : us[k]? = some x) (hf : us[f]? = some y) : Apt w B ((us.set k y).set f x) := by
 have hkl := (List.getElem?_eq_some_iff.1 hk).1
 have hfl := (List.getElem?_eq_some_iff.1 hf).1
 have at_ : ∀ i : Nat, ((us.set k y).set f x)[i]? = if i = f then some x else if i = k then some y else us[i]? := fun i => by
  by_cases e1 : i = f
  ·subst e1
   rw [if_pos rfl, List.getElem?_set_self (by rw [List.length_set]; exact hfl)]
  ·rw [if_neg e1, List.getElem?_set_ne (fun e => e1 e.symm)]
   by_cases e2 : i = k
   ·subst e2
    rw [if_pos rfl, List.getElem?_set_self hkl]
   ·rw [if_neg e2, List.getElem?_set_ne (fun e => e2 e.symm)]
 have src : ∀ (i : Nat) (u : Value), ((us.set k y).set f x)[i]? = some u → us[if i = f then k else if i = k then f else i]? = some u := fun i u hu => by
  rw [at_] at hu
  by_cases e1 : i = f
  ·rw [if_pos e1] at hu ⊢; rw [hk]; exact hu
  ·rw [if_neg e1] at hu ⊢
   by_cases e2 : i = k
   ·rw [if_pos e2] at hu ⊢; rw [hf]; exact hu
   ·rw [if_neg e2] at hu ⊢; exact hu
 refine ⟨fun u hu g e => ?_, fun i j u v hij hu hv g e => ?_⟩
 ·obtain ⟨i, hi⟩ := List.mem_iff_getElem?.1 hu
  exact h.1 u (List.mem_of_getElem? (src i u hi)) g e
 ·refine h.2 _ _ u v ?_ (src i u hu) (src j v hv) g e
  intro e2
  split at e2 <;> split at e2 <;> (try split at e2) <;> (try split at e2) <;> omega
/-- The last pivot, and what is left of the rows; or 0. -/
def RetWay (g n C : Nat) (us0 : List Value) (T0 : List (List Int)) (w : World) (e : Ending) (w' : World) : Prop := w.grownBy w' (some g) ∧ ((∃ us T d neg v a, e = .returned (.tuple #[v, .bool neg]) ∧ IsZ w' v d ∧ TabW .u64 4294967296 w' g 51 us T ∧ shI T n (C - n) ∧ lenI T 5000 ∧ lenZ d ≤ 5000 ∧ BrT n C n a T d ∧ Prm n C (entI T0) a (if neg = true then -1 else 1) ∧ ∀ B, B ≤ w.heap.size → Apt w B us0 → Apt w' B us) ∨ (∃ v, e = .returned (.tuple #[v, .bool false]) ∧ IsZ w' v 0 ∧ detF n (qF (entI T0)) = 0))
theorem next_lenI {n C k S : Nat} {a : Nat → Nat → Int} {T : List (List Int)} {d : Int} {q : List Int} (h : BrT n C k a T d) (hs : shI T n (C - k)) (hk : k < n) (hq : T[k]? = some q) (hp : q.getD 0 0 ≠ 0) (hl : lenI T S) : lenI ((nextT T k q d).set k (q.drop 1)) (2 * S + 1) := by
 intro r hr
 have hql := hl q (List.mem_of_getElem? hq)
 obtain ⟨i, hi⟩ := List.mem_iff_getElem?.1 hr
 have hil := (List.getElem?_eq_some_iff.1 hi).1
 rw [List.length_set, nextT_len] at hil
 by_cases e : k = i
 ·subst e
  rw [List.getElem?_set_self (by rw [nextT_len]; exact hil)] at hi
  injection hi with hi
  intro z hz
  rw [← hi] at hz
  exact Nat.le_trans (hql z (List.mem_of_mem_drop hz)) (by omega)
 ·have hT : T[i]? = some T[i] := List.getElem?_eq_getElem hil
  rw [List.getElem?_set_ne e, nextT_at hT, if_neg (fun h => e h.symm)] at hi
  injection hi with hi
  rw [← hi]
  exact lenI_step h.ne (h.crs hs hk hq hp hT (fun h => e h.symm)) (hl _ (List.mem_of_getElem? hT)) hql
theorem pow_lens {S k n : Nat} (hk : k ≤ n) (h : (S + 1) * 2 ^ n ≤ 5001) : (S + 1) * 2 ^ k ≤ 5001 := Nat.le_trans (Nat.mul_le_mul_left _ (Nat.pow_le_pow_right (by omega) hk)) h
theorem lenZ_one : lenZ 1 ≤ 1 := digs_len_le (by omega) (by decide)
set_option maxHeartbeats 6400000 in
set_option maxRecDepth 100000 in
theorem bway_any (g n C S : Nat) (us : List Value) (T0 : List (List Int)) (w : World) (h : TabW .u64 4294967296 w g 51 us T0) (hc : Hid (shI T0 n C ∧ n ≤ C ∧ n ≤ 100 ∧ C ≤ 200 ∧ lenI T0 S ∧ (S + 1) * 2 ^ n ≤ 5001)) :
    Calls Try.prog 27 #[.slice (some ⟨g, 0, none⟩) n n] w (RetWay g n C us T0 w) := by
  have hn100 := hc.out.2.2.1
  have hnC := hc.out.2.1
  obtain ⟨O, hO⟩ : ∃ O : Int, O = 1 := ⟨_, rfl⟩
  have CO : ∀ w, Calls Try.prog 17 #[.int .i64 1] w (RetZ O w) := fun w => by rw [hO]; exact zof_any 1 w (by omega) (by omega)
  obtain ⟨Z, hZ⟩ : ∃ Z : Int, Z = 0 := ⟨_, rfl⟩
  have CZ : ∀ w, Calls Try.prog 17 #[.int .i64 0] w (RetZ Z w) := fun w => by rw [hZ]; exact zof_any 0 w (by omega) (by omega)
  have HO := Lib.hid hO
  have HZ := Lib.hid hZ
  clear hO hZ
  go_enter Try.func27, Try.ntmps27
  go_wp2_with fail
  refine (CO _).mono ?_
  rintro e w2 ⟨v2, rfl, k2, -, b2⟩
  obtain ⟨u2, rfl, s2⟩ := k2
  obtain ⟨A2, c2, rfl, _⟩ := id s2
  have ba := below_alloc (w := w) (Nat.le_refl _) (.cells #[.bool false, .slice none 0 0] 29)
  have hs1 : (w.alloc (.cells #[.bool false, .slice none 0 0] 29)).heap.size = w.heap.size + 1 := by first | rfl | exact Array.size_push _
  have BR0 := (Blk.new w 29 #[.bool false, .slice none 0 0]).below b2
  have ba2 := below_alloc (w := w2) (Nat.le_refl _) (.cells #[.bool (ngB O), .slice A2 (digs 4294967296 O.natAbs).length c2] 29)
  have BP0 := Blk.new w2 29 #[.bool (ngB O), .slice A2 (digs 4294967296 O.natAbs).length c2]
  have hgP : w.heap.size < w2.heap.size := by have := b2.size; omega
  have hglt : g < w.heap.size := h.lt
  have bb2 := ba.trans (b2.mono ba.size)
  have TS0 := (h.below bb2).below ba2
  have HA0 := Lib.hid (fun (B : Nat) (hB : B ≤ w.heap.size) (h : Apt w B us) => h.grow ((kp_below bb2).trans (kp_below ba2)))
  have HG0 : Hid (w.grownBy _ (some g)) := below_none (bb2.trans (ba2.mono bb2.size)) (some g)
  have s20 := s2.below ba2
  have BR1 := BR0.below ba2
  have HD0 : Hid (BrT n C 0 (entI T0) T0 O ∧ shI T0 n (C - 0) ∧ lenI T0 ((S + 1) * 2 ^ 0 - 1) ∧ lenZ O ≤ 5000) := by
    refine ⟨?_, hc.out.1, ?_, ?_⟩
    · rw [HO.out]; exact BrT.start hc.out.2.1
    · rw [show (S + 1) * 2 ^ 0 - 1 = S by simp]; exact hc.out.2.2.2.2.1
    · rw [HO.out]; exact Nat.le_trans lenZ_one (by omega)
  have HP0 : Hid (Prm n C (entI T0) (entI T0) (if false = true then -1 else 1)) := Prm.refl n C _
  have HO0 : Hid (OffU us (fun x => x = w.heap.size ∨ x = w2.heap.size)) := by
    show OffU _ _
    intro u hu x hx hG
    obtain ⟨i, hi⟩ := List.mem_iff_getElem?.1 hu
    have hin := (List.getElem?_eq_some_iff.1 hi).1
    rw [h.2.1, hc.out.1.1] at hin
    obtain ⟨r, hr, hrl⟩ := rowI_ex hc.out.1 hin
    have hsl := h.2.2 i u r hi hr
    obtain ⟨A', c', rfl, _, _⟩ := hsl.shape
    obtain ⟨g', o', rfl, hlt⟩ := hsl.place (List.length_pos_iff.1 (by omega))
    have e1 : g' = x := by simpa [Value.ownBlock] using hx
    rcases hG with e2 | e2 <;> omega
  clear ba b2 ba2 bb2 s2 BR0 hs1
  go_wp2
  go_loopw [5, 13] (fun v5 v13 wr => ∃ (k : Nat) (T : List (List Int)) (us' : List Value) (a : Nat → Nat → Int) (d : Int) (u : Value) (neg : Bool), k ≤ n ∧ Hid (BrT n C k a T d ∧ shI T n (C - k) ∧ lenI T ((S + 1) * 2 ^ k - 1) ∧ lenZ d ≤ 5000) ∧ TabW .u64 4294967296 wr g 51 us' T ∧ Blk wr w2.heap.size 29 #[.bool (ngB d), u] ∧ IsS wr .u64 u (digs 4294967296 d.natAbs) ∧ Blk wr w.heap.size 29 #[.bool false, .slice none 0 0] ∧ Hid (Prm n C (entI T0) a (if neg = true then -1 else 1)) ∧ Hid (w.grownBy wr (some g)) ∧ Hid (OffU us' (fun x => x = w.heap.size ∨ x = w2.heap.size)) ∧ Hid (∀ B, B ≤ w.heap.size → Apt w B us → Apt wr B us') ∧ v5 = .bool neg ∧ v13 = .int .i64 (k : Int)) (fun _ v13 _ => n - (intOf v13).toNat)
  case atStart => exact ⟨0, T0, us, entI T0, O, _, false, by omega, HD0, TS0, BP0, s20, BR1, HP0, HG0, HO0, HA0, rfl, rfl⟩
  case round =>
    clear TS0 BP0 s20 BR1 HG0 HD0 HO0 HP0 HA0 CO HO
    obtain ⟨k, T, us', a, d, u, neg, hk, HD, TS, BP, su, BR, HP, HG, HOF, HAP, rfl, rfl⟩ := hrel
    obtain ⟨Au, cu, rfl, _⟩ := id su
    by_cases hlt : k < n
    · have hTl : T.length = n := HD.out.2.1.1
      have SL := TS.sub (o := k) (m := n - k) (c := n - k) (by omega) (Nat.le_refl _) (by unfold maxLen; omega)
      go_wp2_with fail
      refine (bfirst_any _ _ _ SL (fun r hr => by rw [HD.out.2.1.2 r (List.mem_of_mem_drop (List.mem_of_mem_take hr))]; omega)).mono ?_
      rintro e w4 ⟨f, rfl, hf, hz, hnz, b4⟩
      have hLl : ((T.drop k).take (n - k)).length = n - k := by rw [List.length_take, List.length_drop]; omega
      have hent : ∀ i, i < n - k → entI ((T.drop k).take (n - k)) i 0 = entI T (k + i) 0 := fun i hi => by
        have e : ((T.drop k).take (n - k)).getD i [] = T.getD (k + i) [] := by rw [List.getD_eq_getElem?_getD, List.getElem?_take_of_lt hi, List.getElem?_drop, List.getD_eq_getElem?_getD]
        unfold entI
        rw [e]
      rw [hLl] at hf hnz
      have TS4 := TS.below b4
      have BP4 := BP.below b4
      have su4 := su.below b4
      have BR4 := BR.below b4
      have HG4 : Hid (w.grownBy w4 (some g)) := below_grown HG.out b4
      have HAP4 := Lib.hid (fun (B : Nat) (hB : B ≤ w.heap.size) (h : Apt w B us) => (HAP.out B hB h).grow (kp_below b4))
      clear TS BP su BR HG SL
      by_cases hfl : f < n - k
      · have hne : entI T (k + f) 0 ≠ 0 := by rw [← hent f hfl]; exact hnz hfl
        have HNE := Lib.hid hne
        clear hz hnz hent hne hLl
        go_upto_if 29 with (fail)
        have hb25 : ((k : Int) + (f : Int) == (n : Int)) = false := by rw [beq_eq_false_iff_ne]; omega
        obtain ⟨B29, hB⟩ : ∃ B, B = decide ((k : Int) < (k : Int) + (f : Int)) := ⟨_, rfl⟩
        rw [hb25, ← hB]
        have HB := Lib.hid hB
        clear hb25 hB
        go_cut [5] from 30 to 45 (fun s5 wx => ∃ (us2 : List Value) (T2 : List (List Int)) (a2 : Nat → Nat → Int) (neg2 : Bool), s5 = .bool neg2 ∧ TabW .u64 4294967296 wx g 51 us2 T2 ∧ Hid (BrT n C k a2 T2 d ∧ shI T2 n (C - k) ∧ lenI T2 ((S + 1) * 2 ^ k - 1) ∧ lenZ d ≤ 5000) ∧ Hid (entI T2 k 0 ≠ 0) ∧ Hid (Prm n C (entI T0) a2 (if neg2 = true then -1 else 1)) ∧ Hid (OffU us2 (fun x => x = w.heap.size ∨ x = w2.heap.size)) ∧ Blk wx w2.heap.size 29 #[.bool (ngB d), .slice Au (digs 4294967296 d.natAbs).length cu] ∧ IsS wx .u64 (.slice Au (digs 4294967296 d.natAbs).length cu) (digs 4294967296 d.natAbs) ∧ Blk wx w.heap.size 29 #[.bool false, .slice none 0 0] ∧ Hid (w.grownBy wx (some g)) ∧ Hid (∀ B, B ≤ w.heap.size → Apt w B us → Apt wx B us2))
        case first =>
          by_cases hf0 : f = 0
          · subst hf0
            have hb : B29 = false := by rw [HB.out]; exact decide_eq_false (by omega)
            subst hb
            have HN0 : Hid (entI T k 0 ≠ 0) := by have := HNE.out; rwa [Nat.add_zero] at this
            go_wp2_with fail
            go_meet
            exact ⟨us', T, a, neg, rfl, TS4, HD, HN0, HP, HOF, BP4, su4, BR4, HG4, HAP4⟩
          · have hb : B29 = true := by rw [HB.out]; exact decide_eq_true (by omega)
            subst hb
            obtain ⟨rk, hrk, hrkl⟩ := rowI_ex HD.out.2.1 (show k < n by omega)
            obtain ⟨rf, hrf, hrfl⟩ := rowI_ex HD.out.2.1 (show k + f < n by omega)
            obtain ⟨Ak, ck, huk, eck, srk⟩ := TS4.at_ hrk
            obtain ⟨Af, cf, huf, ecf, srf⟩ := TS4.at_ hrf
            have fk := TS4.1.1.frozen k
            have ff := TS4.1.1.frozen (k + f)
            have hpos : 0 < n - k := by omega
            have HD2 : Hid (BrT n C k (fun i => if i = k then a (k + f) else if i = k + f then a k else a i) ((T.set k rf).set (k + f) rk) d ∧ shI ((T.set k rf).set (k + f) rk) n (C - k) ∧ lenI ((T.set k rf).set (k + f) rk) ((S + 1) * 2 ^ k - 1) ∧ lenZ d ≤ 5000) := by
              refine ⟨BrT.swap HD.out.1 HD.out.2.1.1 (by omega) (by omega) hrk hrf, ⟨by rw [List.length_set, List.length_set]; exact HD.out.2.1.1, fun r hr => ?_⟩, fun r hr => ?_, HD.out.2.2.2⟩
              · rcases List.mem_or_eq_of_mem_set hr with hr | rfl
                · rcases List.mem_or_eq_of_mem_set hr with hr | rfl
                  · exact HD.out.2.1.2 r hr
                  · exact hrfl
                · exact hrkl
              · rcases List.mem_or_eq_of_mem_set hr with hr | rfl
                · rcases List.mem_or_eq_of_mem_set hr with hr | rfl
                  · exact HD.out.2.2.1 r hr
                  · exact HD.out.2.2.1 _ (List.mem_of_getElem? hrf)
                · exact HD.out.2.2.1 _ (List.mem_of_getElem? hrk)
            have HN2 : Hid (entI ((T.set k rf).set (k + f) rk) k 0 ≠ 0) := by
              have h1 : ((T.set k rf).set (k + f) rk)[k]? = some rf := by rw [List.getElem?_set_ne (by omega), List.getElem?_set_self (by rw [HD.out.2.1.1]; omega)]
              show _ ≠ _
              rw [entI_row h1, ← entI_row hrf]
              exact HNE.out
            have HP2 : Hid (Prm n C (entI T0) (fun i => if i = k then a (k + f) else if i = k + f then a k else a i) (if (!neg) = true then -1 else 1)) := by
              have h1 := HP.out.swap (k := k) (f := k + f) (by omega) (by omega) (by omega)
              have e : (if (!neg) = true then (-1 : Rat) else 1) = -(if neg = true then -1 else 1) := by cases neg <;> decide
              show Prm _ _ _ _ _
              rw [e]; exact h1
            clear hrkl hrfl
            go_upto_region 9 with (fail)
            go_region
            all_goals
              have TS5 := TS4.stored k srf
              have srk5 := TS4.1.keepZ (grown_set w4 g k (.slice Af rf.length cf)) srk
              have TS6 := TS5.stored (k + f) srk5
              have G8 := below_grown ((grown_set w4 g k (.slice Af rf.length cf)).trans (grown_set _ g (k + f) (.slice Ak rk.length ck))) (Below.refl _ ((w4.setCell ⟨g, k, none⟩ (.slice Af rf.length cf)).setCell ⟨g, k + f, none⟩ (.slice Ak rk.length ck))).drew
              have TS8 := TS6.below (Below.refl _ _).drew
              have HO8 : Hid (OffU ((us'.set k (.slice Af rf.length cf)).set (k + f) (.slice Ak rk.length ck)) (fun x => x = w.heap.size ∨ x = w2.heap.size)) := (HOF.out.set (fun x hx => HOF.out _ (List.mem_of_getElem? huf) x hx) k).set (fun x hx => HOF.out _ (List.mem_of_getElem? huk) x hx) (k + f)
              have BP8 := Blk.grown BP4 G8 (by omega)
              have BR8 := Blk.grown BR4 G8 (by omega)
              have su8 := TS4.1.keep G8 su4
              have HG8 := Lib.hid (HG4.out.trans G8)
              have HA8 := Lib.hid (fun (B : Nat) (hB : B ≤ w.heap.size) (h : Apt w B us) => ((HAP4.out B hB h).swap (show k ≠ k + f by omega) huk huf).grow ((kp_set w4 g k (.slice Af rf.length cf)).trans ((kp_set _ g (k + f) (.slice Ak rk.length ck)).trans (kp_below (Below.refl _ _).drew))))
              clear TS5 TS6 srk5 G8 TS4 BP4 BR4 su4 HG4 srk srf eck ecf fk ff
              go_wp2
              go_meet
              exact ⟨_, _, _, _, rfl, TS8, HD2, HN2, HP2, HO8, BP8, su8, BR8, HG8.out, HA8.out⟩
        case rest =>
          obtain ⟨us2, T2, a2, neg2, rfl, TS5, HD5, HNE5, HP5, HO5, BP5, su5, BR5, HG5, HA5⟩ := hcut
          obtain ⟨w5, hw5⟩ : ∃ w5, w5 = wc := ⟨_, rfl⟩
          subst hw5
          clear TS4 BP4 su4 BR4 HG4 HOF HB HD HP HNE HAP HAP4 hTl
          obtain ⟨q, hq, hql⟩ := rowI_ex HD5.out.2.1 hlt
          obtain ⟨Aq, cq, huq, ecq, sq⟩ := TS5.at_ hq
          obtain ⟨gq, oq, rfl, hgq⟩ := sq.place (List.length_pos_iff.1 (by omega))
          have hq0 : q.getD 0 0 ≠ 0 := by have := HNE5.out; rwa [entI_row hq] at this
          obtain ⟨m, hm⟩ : ∃ m, C - k = m + 1 := ⟨C - k - 1, by omega⟩
          have HM := Lib.hid hm
          obtain ⟨N, hN⟩ : ∃ N, N = nextT T2 k q d := ⟨_, rfl⟩
          have HNL : Hid (N.length = T2.length ∧ T2.length = n) := ⟨by rw [hN]; exact nextT_len _ _ _ _, HD5.out.2.1.1⟩
          have HNK : Hid (N[k]? = some q ∧ T2[k]? = some q) := ⟨by rw [hN, nextT_at hq, if_pos rfl], hq⟩
          have HNI : Hid (∀ i r, T2[i]? = some r → i ≠ k → N[i]? = some (stepZ r q d) ∧ Crs r q (stepZ r q d) d ∧ r.length = m + 1) := by
            show ∀ i r, _
            intro i r hr hik
            exact ⟨by rw [hN, nextT_at hr, if_neg hik], BrT.crs HD5.out.1 HD5.out.2.1 hlt hq hq0 hr hik, by rw [HD5.out.2.1.2 r (List.mem_of_getElem? hr)]; exact hm⟩
          have HNX : Hid (BrT n C (k + 1) a2 (N.set k (q.drop 1)) (q.getD 0 0) ∧ shI (N.set k (q.drop 1)) n (C - (k + 1)) ∧ lenI (N.set k (q.drop 1)) ((S + 1) * 2 ^ (k + 1) - 1) ∧ lenZ (q.getD 0 0) ≤ 5000) := by
            have h1 := next_lenI HD5.out.1 HD5.out.2.1 hlt hq hq0 HD5.out.2.2.1
            have h3 := pow_lens (k := k) (by omega) hc.out.2.2.2.2.2
            have h4 : 1 ≤ (S + 1) * 2 ^ k := Nat.mul_pos (by omega) (Nat.two_pow_pos k)
            have h2 : 2 * ((S + 1) * 2 ^ k - 1) + 1 = (S + 1) * 2 ^ (k + 1) - 1 := by
              have : (S + 1) * 2 ^ (k + 1) = 2 * ((S + 1) * 2 ^ k) := by rw [Nat.pow_succ]; simp [Nat.mul_comm, Nat.mul_left_comm]
              omega
            rw [h2] at h1
            rw [hN]
            refine ⟨BrT.next HD5.out.1 HD5.out.2.1 hlt hq hq0, next_sh HD5.out.2.1 hq, h1, ?_⟩
            have e : q[0]? = some (q.getD 0 0) := by
              rw [List.getElem?_eq_getElem (show 0 < q.length by omega), List.getD_eq_getElem?_getD, List.getElem?_eq_getElem (show 0 < q.length by omega)]; rfl
            exact Nat.le_trans (HD5.out.2.2.1 q (List.mem_of_getElem? hq) _ (List.mem_of_getElem? e)) (by omega)
          have HLQ : Hid (∀ r ∈ T2, ∀ z ∈ r, lenZ z ≤ 5000) := by
            have h3 := pow_lens (k := k) (by omega) hc.out.2.2.2.2.2
            exact fun r hr z hz => Nat.le_trans (HD5.out.2.2.1 r hr z hz) (by omega)
          have HDN := Lib.hid (And.intro (BrT.ne HD5.out.1) HD5.out.2.2.2)
          have HQL : Hid (q.length = m + 1 ∧ m ≤ 1000) := ⟨by rw [hql]; exact hm, by have := hc.out.2.2.2.1; omega⟩
          have hOQ := HO5.out _ (List.mem_of_getElem? huq)
          have HOQ := Lib.hid hOQ
          have HU0 := Lib.hid huq
          have TM0 : TabW .u64 4294967296 w5 g 51 us2 (mixT T2 N 0) := by rw [mixT_zero]; exact TS5
          clear hq hm hN hq0 hql huq HNE5 hOQ
          have HTB := Lib.hid TS5.1
          have hgs : g ≠ w2.heap.size := by omega
          go_wp2
          go_loopw [52] (fun v52 wr => ∃ (i : Nat) (us3 : List Value), i ≤ n ∧ TabW .u64 4294967296 wr g 51 us3 (mixT T2 N i) ∧ Hid (w5.grownBy wr (some g)) ∧ Hid (OffU us3 (fun x => x = w.heap.size ∨ x = w2.heap.size)) ∧ Hid (us3[k]? = some (.slice (some ⟨gq, oq, none⟩) q.length cq)) ∧ Hid (∀ B, B ≤ w.heap.size → Apt w B us → Apt wr B us3) ∧ v52 = .int .i64 (i : Int)) (fun v52 _ => n - (intOf v52).toNat)
          case atStart => exact ⟨0, us2, by omega, TM0, grown_refl _ _, HO5, HU0, HA5, rfl⟩
          case round =>
            clear TM0 ecq
            obtain ⟨i, us3, hi, TM, HGi, HOi, HUi, HAi, rfl⟩ := hrel
            obtain ⟨wi, hwi⟩ : ∃ wi, wi = wr := ⟨_, rfl⟩
            subst hwi
            by_cases hin : i < n
            · by_cases hik : i = k
              · have hneq : ((i : Int) != (k : Int)) = false := by rw [bne_eq_false_iff_eq]; omega
                have TM2 : TabW .u64 4294967296 wi g 51 us3 (mixT T2 N (i + 1)) := by
                  rw [mixT_keep HNL.out.1 (by rw [hik]; exact HNK.out.1) (by rw [hik]; exact HNK.out.2)]
                  exact TM
                clear hik TM
                go_wp2
                go_roundw
                case rel => exact ⟨i + 1, us3, by omega, TM2, HGi, HOi, HUi, HAi, by go_num⟩
                case measure => simp [intOf]; omega
              · have hneq : ((i : Int) != (k : Int)) = true := by rw [bne_iff_ne]; omega
                obtain ⟨r, hr, -⟩ := rowI_ex HD5.out.2.1 hin
                have hr2 : (mixT T2 N i)[i]? = some r := by rw [mixT_at HNL.out.1 (by rw [HNL.out.2]; omega)]; exact hr
                have HIK := Lib.hid hik
                have HR := Lib.hid (And.intro hr (And.intro hr2 (HNI.out i r hr hik)))
                have bd := (Below.refl wi.heap.size wi).drew
                have TMd := TM.below bd
                obtain ⟨Ar, cr, hur, ecr, srd⟩ := TMd.at_ hr2
                have sqd := (HTB.out.keepZ HGi.out sq).below bd
                have BPd := (Blk.grown BP5 HGi.out (fun e => hgs e.symm)).below bd
                have sud := (HTB.out.keep HGi.out su5).below bd
                obtain ⟨V0, V1, F0, F1⟩ := Blk.two BPd
                have HGd : Hid (w5.grownBy wi.drew (some g)) := below_grown HGi.out bd
                have HC : Hid (d ≠ 0 ∧ (∀ z ∈ r, lenZ z ≤ 5000) ∧ (∀ z ∈ q, lenZ z ≤ 5000) ∧ lenZ d ≤ 5000 ∧ Crs r q (stepZ r q d) d) := ⟨HDN.out.1, HLQ.out r (List.mem_of_getElem? hr), HLQ.out q (List.mem_of_getElem? HNK.out.2), HDN.out.2, HR.out.2.2.2.1⟩
                obtain ⟨zs, hzs⟩ : ∃ zs, zs = stepZ r q d := ⟨_, rfl⟩
                rw [← hzs] at HC HR
                have hzl : zs.length = m := by rw [hzs, stepZ_len, HR.out.2.2.2.2]; omega
                have HLL : Hid (r.length = m + 1 ∧ q.length = m + 1 ∧ zs.length = m ∧ m ≤ 1000) := ⟨HR.out.2.2.2.2, HQL.out.1, hzl, HQL.out.2⟩
                have HSET : Hid ((mixT T2 N i).set i zs = mixT T2 N (i + 1)) := mixT_set HNL.out.1 HR.out.2.2.1
                have fi := TMd.1.1.frozen i
                clear hik hr hr2 hzs hzl TM HGi
                go_upto_region 16 with (fail)
                go_region_law (go_simp; go_at_call 51; refine (bstep_any _ _ _ r q zs d m _ (by exact srd) (by exact sqd) ⟨_, rfl, sud⟩ HLL.out HC).mono ?_; rintro e w6 ⟨gn, rfl, RN, hgn, b6⟩; have sR := RN.sl rfl (by have := HLL.out; omega); have TM6 := TMd.below b6; obtain ⟨A6', c6', hu6, ec6, -⟩ := TM6.at_ HR.out.2.1; have f6 := TM6.1.1.frozen i)
                all_goals
                  have TM7 := TM6.stored i sR
                  rw [HSET.out] at TM7
                  have HG7 := Lib.hid ((below_grown HGd.out b6).trans (grown_set w6 g i (.slice (some ⟨gn, 0, none⟩) zs.length zs.length)))
                  have hlt2 := BPd.lt
                  have HU7 : Hid ((us3.set i (.slice (some ⟨gn, 0, none⟩) zs.length zs.length))[k]? = some (.slice (some ⟨gq, oq, none⟩) q.length cq)) := by show _ = _; rw [List.getElem?_set_ne HIK.out]; exact HUi.out
                  have HA7 := Lib.hid (fun (B : Nat) (hB : B ≤ w.heap.size) (h : Apt w B us) => Apt.new (w := w6.setCell ⟨g, i, none⟩ (.slice (some ⟨gn, 0, none⟩) zs.length zs.length)) (k := i) (n := zs.length) (c := zs.length) ((HAi.out B hB h).grow (w' := wi.drew) (kp_below bd)) ((kp_below b6).trans (kp_set w6 g i _)) hgn (Nat.le_trans hB (Nat.le_trans HG5.out.size HGd.out.size)) ((kp_set w6 g i _).2 gn RN.bk))
                  have HO7 := Lib.hid (HOi.out.set (u := .slice (some ⟨gn, 0, none⟩) zs.length zs.length) (fun x hx hG => by
                    have e1 : gn = x := by simpa [Value.ownBlock] using hx
                    rcases hG with e2 | e2 <;> omega) i)
                  clear TM6 sR RN TMd BPd srd sqd sud V0 V1 F0 F1 ecr ec6 f6 fi HGd HOi bd b6
                  go_wp2
                  go_roundw
                  case rel => exact ⟨i + 1, _, by omega, TM7, HG7, HO7, HU7, HA7, by go_num⟩
                  case measure => simp [intOf]; omega
            · have TMn : TabW .u64 4294967296 wi g 51 us3 N := by
                have h1 := mixT_all HNL.out.1
                rw [HNL.out.2] at h1
                rw [show i = n by omega, h1] at TM
                exact TM
              have sqn := HTB.out.keepZ HGi.out sq
              have BPn := Blk.grown BP5 HGi.out (fun e => hgs e.symm)
              have sun := HTB.out.keep HGi.out su5
              have BRn := Blk.grown BR5 HGi.out (show w.heap.size ≠ g by omega)
              have hql1 : 1 ≤ q.length := by have := HQL.out.1; omega
              obtain ⟨Q0, hQ0⟩ : ∃ Q0, Q0 = q.getD 0 0 := ⟨_, rfl⟩
              have hq0 : q[0]? = some Q0 := by
                rw [hQ0, List.getElem?_eq_getElem (show 0 < q.length by omega), List.getD_eq_getElem?_getD, List.getElem?_eq_getElem (show 0 < q.length by omega)]; rfl
              rw [← hQ0] at HNX
              obtain ⟨u0, hi0, p0, p1, e0⟩ := sqn.at2 hq0
              rw [show oq + 0 * 2 = oq by omega] at p0 p1
              obtain ⟨Au0, cu0, rfl, _⟩ := id e0
              obtain ⟨A1, hA1⟩ : ∃ A1 : Option Addr, A1 = if cq = 1 then some ⟨gq, oq, none⟩ else some ⟨gq, oq + 2, none⟩ := ⟨_, rfl⟩
              have sV := sqn.cut1 hql1 hA1
              obtain ⟨rN, hrN⟩ : ∃ rN, N[k]? = some rN := ⟨_, HNK.out.1⟩
              obtain ⟨AN, cN, huN, ecN, -⟩ := TMn.at_ hrN
              have fN := TMn.1.1.frozen k
              have hcq : q.length ≤ cq := by obtain ⟨A', c', e, h1, h2⟩ := sqn.shape; injection e with _ _ e; omega
              have hix := fun w => index20 (P := Try.prog) Try.underlying51 (by kernel_rfl) (g := gq) (o := oq) (c := cq) hi0 w
              obtain ⟨V0, V1, F0, F1⟩ := Blk.two BPn
              have HQ0 := Lib.hid (And.intro hQ0 hq0)
              have HA1 := Lib.hid hA1
              clear hQ0 hq0 hA1
              go_upto_region 18 with (fail)
              go_region
              all_goals
                rw [← HA1.out]
                have G1 := grown_set wi g k (.slice A1 (q.length - 1) (cq - 1))
                have TM1 := TMn.stored k sV
                have e1 := TMn.1.keep G1 e0
                have BP1 := Blk.grown BPn G1 (fun e => hgs e.symm)
                have HO1 := Lib.hid (HOi.out.set (u := .slice A1 (q.length - 1) (cq - 1)) (fun x hx => HOQ.out x (by
                  rw [HA1.out] at hx
                  split at hx <;> simpa [Value.ownBlock] using hx)) k)
                have G2 := grown_set2 (wi.setCell ⟨g, k, none⟩ (.slice A1 (q.length - 1) (cq - 1))) w2.heap.size (.bool (ngB Q0)) (.slice Au0 (digs 4294967296 Q0.natAbs).length cu0)
                have TM2 := TM1.offZ BP1 no_ints2 (by decide) G2 (fun u hu e => HO1.out u hu _ e (.inr rfl))
                have BP2 := blk_set2 BP1 (.bool (ngB Q0)) (.slice Au0 (digs 4294967296 Q0.natAbs).length cu0)
                have e2 := Go.Proofs.Yteijlcfhenlanaa.flow.off e1 BP1 no_ints2 G2
                have BR2 := Blk.grown (Blk.grown BRn G1 (show w.heap.size ≠ g by omega)) G2 (by omega)
                have TMf := TM2.drew
                have BPf : Blk _ _ _ _ := BP2.drew
                have ef := e2.drew
                have BRf : Blk _ _ _ _ := BR2.drew
                have HAf := Lib.hid (fun (B : Nat) (hB : B ≤ w.heap.size) (h : Apt w B us) => ((HAi.out B hB h).cut (x := .slice A1 (q.length - 1) (cq - 1)) HUi.out (fun x hx => by
                  rw [HA1.out] at hx
                  split at hx <;> simpa [Value.ownBlock] using hx)).grow ((kp_set wi g k (.slice A1 (q.length - 1) (cq - 1))).trans (kp_set2 _ w2.heap.size (.bool (ngB Q0)) (.slice Au0 (digs 4294967296 Q0.natAbs).length cu0))))
                have HGf := Lib.hid (below_grown (grown_new ((HG5.out.trans HGi.out).trans G1) G2 (Nat.le_of_lt hgP)) (Below.drew (Below.refl _ _)))
                clear G1 TM1 e1 BP1 G2 TM2 BP2 e2 BR2 TMn sqn BPn sun BRn e0 sV ecN fN V0 V1 F0 F1 p0 p1 hix TM HGi HOi sq TS5 BP5 su5 BR5 HG5
                go_wp2
                go_roundw
                case rel => exact ⟨k + 1, _, _, a2, Q0, _, neg2, by omega, HNX, TMf, BPf, ef, BRf, HP5, HGf, HO1, HAf, rfl, by go_num⟩
                case measure => simp [intOf]; omega
      · have hfe : f = n - k := by omega
        have HDET : Hid (detF n (qF (entI T0)) = 0) := by
          have h1 := BrT.none HD.out.1 hlt fun i h1 h2 => by
            have h3 := hent (i - k) (by omega)
            rw [show k + (i - k) = i by omega] at h3
            rw [← h3]
            exact hz _ (by omega)
          have h2 := HP.out.fn _ ((detF_row n).wide hnC)
          show _ = _
          rw [h2, h1]; grind
        clear hz hnz hent hLl
        have hb25 : ((k : Int) + (f : Int) == (n : Int)) = true := by rw [beq_iff_eq]; omega
        have hb26 : (k : Int) + (f : Int) = (n : Int) := by omega
        go_wp2_with fail
        refine (CZ _).mono ?_
        rintro e w6 ⟨v6, rfl, k6, -, b6⟩
        obtain ⟨u6, rfl, s6⟩ := k6
        obtain ⟨A6, c6, rfl, _⟩ := id s6
        have BR6 := BR4.below b6
        obtain ⟨V0, V1, F0, F1⟩ := Blk.two BR6
        have G8 := grown_set2 w6 w.heap.size (.bool (ngB Z)) (.slice A6 (digs 4294967296 Z.natAbs).length c6)
        have s8 := Go.Proofs.Yteijlcfhenlanaa.flow.off s6 BR6 no_ints2 G8
        have HG8 := Lib.hid (grown_new (below_grown HG4.out b6) G8 (Nat.le_refl _))
        have B8 := blk_set2 BR6 (.bool (ngB Z)) (.slice A6 (digs 4294967296 Z.natAbs).length c6)
        obtain ⟨C0, C1, -, -⟩ := Blk.two B8
        clear G8 TS4 BP4 su4 BR4 HG4 s6 BR6 b6 B8
        go_wp2
        refine bodyPost_ret (v := .tuple #[.agg #[.bool (ngB Z), .slice A6 (digs 4294967296 Z.natAbs).length c6], .bool false]) (by simp [results, Try.results27, go_sem, C0, C1]) rfl ?_
        exact ⟨HG8.out, .inr ⟨_, rfl, by rw [← HZ.out]; exact ⟨_, rfl, s8⟩, HDET.out⟩⟩
    · obtain rfl : k = n := by omega
      obtain ⟨V0, V1, F0, F1⟩ := Blk.two BP
      obtain ⟨U0, U1, G0, G1⟩ := Blk.two BR
      have G8 := grown_set2 wr w.heap.size (.bool (ngB d)) (.slice Au (digs 4294967296 d.natAbs).length cu)
      have s8 := Go.Proofs.Yteijlcfhenlanaa.flow.off su BR no_ints2 G8
      have TS8 := TS.offZ BR no_ints2 (by decide) G8 (fun u hu e => HOF.out u hu _ e (.inl rfl))
      have HG8 := Lib.hid (grown_new HG.out G8 (Nat.le_refl _))
      have HAZ := Lib.hid (fun (B : Nat) (hB : B ≤ w.heap.size) (h : Apt w B us) => (HAP.out B hB h).grow (kp_set2 wr w.heap.size (.bool (ngB d)) (.slice Au (digs 4294967296 d.natAbs).length cu)))
      have HLI : Hid (lenI T 5000) := by
        have h3 := hc.out.2.2.2.2.2
        exact fun r hr z hz => Nat.le_trans (HD.out.2.2.1 r hr z hz) (by omega)
      have B8 := blk_set2 BR (.bool (ngB d)) (.slice Au (digs 4294967296 d.natAbs).length cu)
      obtain ⟨C0, C1, -, -⟩ := Blk.two B8
      clear G8 TS BP su BR HG B8
      go_wp2
      refine bodyPost_ret (v := .tuple #[.agg #[.bool (ngB d), .slice Au (digs 4294967296 d.natAbs).length cu], .bool neg]) (by simp [results, Try.results27, go_sem, C0, C1]) rfl ?_
      exact ⟨HG8.out, .inl ⟨us', T, d, neg, _, a, rfl, ⟨_, rfl, s8⟩, TS8, HD.out.2.1, HLI.out, HD.out.2.2.2, HD.out.1, HP.out, HAZ.out⟩⟩
def sgn (b : Bool) (x : Int) : Int := if b = true then -x else x
theorem sgn_sg (b : Bool) (x : Int) : sg (!(ngB x == b)) x.natAbs = sgn b x := by
 cases b
 ·have e : (!(ngB x == false)) = ngB x := by cases ngB x <;> rfl
  rw [e]; exact sg_self x
 ·have e : (!(ngB x == true)) = !(ngB x) := by cases ngB x <;> rfl
  rw [e]; exact sg_neg x
set_option maxHeartbeats 1600000 in
set_option maxRecDepth 100000 in
theorem bsigned_any (b0 : Bool) (a0 : Value) (x : Int) (w : World) (h0 : IsZ w a0 x) (hl : lenZ x ≤ 100000) :
  Calls Try.prog 28 #[.bool b0, a0] w (RetZ (sgn b0 x) w) := by
 obtain ⟨u0, rfl, s0⟩ := h0
 obtain ⟨A0, c0, rfl, _⟩ := id s0
 obtain ⟨X, hX⟩ : ∃ X, X = sgn b0 x := ⟨_, rfl⟩
 rw [← hX]
 have HZ : Hid (sg (!(ngB x == b0)) x.natAbs = X) := by show _ = _; rw [hX]; exact sgn_sg b0 x
 have HL : Hid ((digs 4294967296 x.natAbs).length ≤ 1000000) := by show _ ≤ _; unfold lenZ at hl; omega
 clear hX
 go_enter Try.func28, Try.ntmps28
 go_upto_region 1 with (fail)
 obtain ⟨wx, hwx, bb, B0, B1, hsz⟩ := vars2 w 29 29 #[.bool (ngB x), .slice A0 (digs 4294967296 (x).natAbs).length c0] #[.bool false, .slice none 0 0]
 rw [hwx]
 clear hwx
 have k0s := s0.below bb
 have hszb := bb.size
 refine flowp 7 [Pd.eq (.pointer (some ⟨w.heap.size, 0, none⟩)), Pd.eq (.bool (ngB x)), Pd.eq (.bool b0), Pd.eq (.bool (!(ngB x == b0))), Pd.eq (.pointer (some ⟨w.heap.size, 1, none⟩)), Pd.eq (.slice A0 (digs 4294967296 (x).natAbs).length c0), pz X wx.heap.size] (by kernel_rfl) ?ob1 ?done1
 case ob1 =>
  refine And.intro (ob_fieldAddr rfl (wt_none rfl) (ev_far rfl rfl) (fun _ => by kernel_rfl) (fun _ => rfl)) ?_
  refine And.intro (ob_load rfl (wt_none rfl) (ev_dep (j := 0) (by kernel_rfl) rfl rfl) (fun w2 hb => run_load1 Try.underlying4 rfl ((B0.below hb).cell 0)) (fun _ _ => rfl)) ?_
  refine And.intro (ob_move rfl (wt_none rfl) (ev_far rfl rfl) (fun _ _ h => h)) ?_
  refine And.intro (ob_bin rfl (wt_none rfl) (ev_dep (j := 1) (by kernel_rfl) rfl rfl) (ev_dep (j := 2) (by kernel_rfl) rfl rfl) (fun _ _ _ hx hy => ⟨_, by rw [hx, hy]; exact bin_neq_bool _ _ _ _ Try.underlying4 _, rfl⟩)) ?_
  refine And.intro (ob_fieldAddr rfl (wt_none rfl) (ev_far rfl rfl) (fun _ => by kernel_rfl) (fun _ => rfl)) ?_
  refine And.intro (ob_load rfl (wt_none rfl) (ev_dep (j := 4) (by kernel_rfl) rfl rfl) (fun w2 hb => run_load1 Try.underlying27 rfl ((B0.below hb).cell 1)) (fun _ _ => rfl)) ?_
  refine And.intro (ob_call2 rfl Try.func46 (by kernel_rfl) (wt_none rfl) (ev_dep (j := 3) (by kernel_rfl) rfl rfl) (ev_dep (j := 5) (by kernel_rfl) rfl rfl) (fun w2 u0 u1 hb h0 h1 => by obtain rfl := h0; obtain rfl := h1; exact (Go.Proofs.Yteijlcfhenlanaa.whl.made_any _ _ _ X _ (k0s.below hb) HL.out HZ.out.symm).mono fun e w3 h => RetZ.pd h hb.size)) ?_
  trivial
 case done1 =>
  refine fun w1 hb1 v0 h0 v1 h1 v2 h2 v3 h3 v4 h4 v5 h5 v6 h6 b hbf => ?_
  obtain rfl := h0; obtain rfl := h1; obtain rfl := h2; obtain rfl := h3; obtain rfl := h4; obtain rfl := h5
  obtain ⟨q5, f5⟩ := h6
  simp only [Act.put, List.setIfInBounds_toArray, List.set_cons_zero, List.set_cons_succ] at hbf
  subst hbf
  obtain ⟨u5, rfl, q5⟩ := q5
  obtain ⟨A9, c9, rfl, _⟩ := id q5
  have B9 := B1.below hb1
  refine ops_store (i := 7) rfl rfl rfl rfl rfl rfl (cells := [.bool (ngB X), .slice A9 (digs 4294967296 X.natAbs).length c9]) rfl B9 rfl (by kernel_rfl) (one2 rfl rfl) fun w9 hg9 BB9 => ?_
  have k9 := Go.Proofs.Yteijlcfhenlanaa.flow.off q5 B9 no_ints2 hg9
  have f9 := (f5 _ _ rfl).mono (show w.heap.size ≤ wx.heap.size from bb.size)
  have bb9 := ((bb.trans (hb1.mono bb.size)).trans ((Below.refl _ _).grown hg9 (Nat.le_trans bb.size hb1.size) (fun g hg => by injection hg with hg; omega)))
  obtain ⟨c0, c1, _, _⟩ := Blk.two BB9
  refine ops_done ?_
  go_wp2
  exact bodyPost_ret (v := .agg #[.bool (ngB X), .slice A9 (digs 4294967296 X.natAbs).length c9]) (by simp [results, Try.results28, go_sem, c0, c1]) rfl ⟨_, rfl, isZ_mk k9 rfl rfl, freshZ_mk f9, bb9⟩
/-- What way tells is the determinant, but for its sign. -/
theorem RetWay.det {g n : Nat} {us0 : List Value} {T0 : List (List Int)} {w w' : World} {e : Ending} (h : RetWay g n n us0 T0 w e w') : w.grownBy w' (some g) ∧ ∃ v neg D, e = .returned (.tuple #[v, .bool neg]) ∧ IsZ w' v D ∧ lenZ D ≤ 5000 ∧ ((sgn neg D : Int) : Rat) = detF n (qF (entI T0)) := by
 obtain ⟨hg, ⟨us, T, d, neg, v, a, rfl, hv, -, -, -, hl, hB, hP, -⟩ | ⟨v, rfl, hv, hd⟩⟩ := h
 ·refine ⟨hg, v, neg, d, rfl, hv, hl, ?_⟩
  rw [hP.fn _ (detF_row n), BrQ.det hB]
  unfold sgn
  cases neg
  ·simp
  ·simp [Rat.intCast_neg]; grind
 ·refine ⟨hg, v, false, 0, rfl, hv, ?_, ?_⟩
  ·unfold lenZ; rw [Int.natAbs_zero, digs_zero]; exact Nat.zero_le _
  ·rw [hd]; rfl
/-- The first rows and places. -/
def cutI (T : List (List Int)) (n : Nat) : List (List Int) := (T.take n).map fun r => r.take n
theorem cutI_len {T : List (List Int)} {n : Nat} (h : n ≤ T.length) : (cutI T n).length = n := by unfold cutI; rw [List.length_map, List.length_take]; omega
theorem cutI_at {T : List (List Int)} {n i : Nat} {r : List Int} (hr : T[i]? = some r) (hi : i < n) : (cutI T n)[i]? = some (r.take n) := by
 unfold cutI
 rw [List.getElem?_map, List.getElem?_take_of_lt hi, hr]; rfl
theorem cutI_ent {T : List (List Int)} {n i j : Nat} (hi : i < n) (hj : j < n) : entI (cutI T n) i j = entI T i j := by
  cases hr : T[i]? with
  | none =>
    have h1 : (cutI T n)[i]? = none := by unfold cutI; rw [List.getElem?_map, List.getElem?_take_of_lt hi, hr]; rfl
    unfold entI
    rw [List.getD_eq_getElem?_getD (l := cutI T n), h1, List.getD_eq_getElem?_getD (l := T), hr]
  | some r =>
    rw [entI_row (cutI_at hr hi), entI_row hr, List.getD_eq_getElem?_getD, List.getElem?_take_of_lt hj, List.getD_eq_getElem?_getD]
theorem cutI_sh {T : List (List Int)} {n : Nat} (h : squareI T) (hn : n ≤ T.length) : shI (cutI T n) n n := by
 refine ⟨cutI_len hn, fun r hr => ?_⟩
 unfold cutI at hr
 obtain ⟨x, hx, rfl⟩ := List.mem_map.1 hr
 rw [List.length_take, h.2 x (List.mem_of_mem_take hx)]; omega
theorem cutI_lens {T : List (List Int)} {n S : Nat} (h : lenI T S) : lenI (cutI T n) S := by
 intro r hr z hz
 unfold cutI at hr
 obtain ⟨x, hx, rfl⟩ := List.mem_map.1 hr
 exact h x (List.mem_of_mem_take hx) z (List.mem_of_mem_take hz)
theorem info_ints : ∃ i, Try.prog.info? 51 = some i ∧ i.zero = some (.slice none 0 0) ∧ i.size = 1 ∧ i.bytes = 24 := info_parts (P := Try.prog) (e := 51) (z := .slice none 0 0) (size := 1) (bytes := 24) (by kernel_rfl)
end Go.Proofs.Yteijlcfhenlanaa.rat
