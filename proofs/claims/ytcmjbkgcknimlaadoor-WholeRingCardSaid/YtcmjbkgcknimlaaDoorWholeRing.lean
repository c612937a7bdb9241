/- WholeRing: sums and products may be put together in any order, products of sums are sums of products, what was added is taken off, and the floor's quotient and rest make the number. Condition: the arguments can be read as data. -/
import Derived.Test.YtcmjbkgcknimlaaDoorWhlL
import Derived.Deep.Cut
import Derived.Test.YtcmjbkgcknimlaaDoorCards
import Derived.Test.YtcmjbkgcknimlaaDoorTie
import Derived.OpenShut
import Derived.LaidMore
import Derived.Lay
import Derived.SevenTiedAt
import Derived.Stop.Joined
namespace Go.Proofs.YtcmjbkgcknimlaaDoor.wholeRing
open Go.ChangeShapes Go.WideShapes Go.ChangeAt Go.RowKit Go.Proofs.YtcmjbkgcknimlaaDoor.num Go.Proofs.YtcmjbkgcknimlaaDoor.mem Go.Proofs.YtcmjbkgcknimlaaDoor.nat Go.Proofs.YtcmjbkgcknimlaaDoor.txt Go.Proofs.YtcmjbkgcknimlaaDoor.str Go.Proofs.YtcmjbkgcknimlaaDoor.flow Go.Proofs.YtcmjbkgcknimlaaDoor.whl
set_option linter.unusedVariables false

theorem own : ownKnob Tryd.prog.godebug = none := by kernel_rfl
theorem laidOut : laidOutB Tryd.prog = true := by kernel_rfl
theorem cells_u : Tryd.prog.cellsOf 74 = 1 := by kernel_rfl


set_option maxHeartbeats 6400000 in
set_option maxRecDepth 100000 in
/-- The walk: the Go text returns true; what was there is as it was. -/
theorem walk (b0 : Bool) (v0 : Value) (l0 : List Nat) (b1 : Bool) (v1 : Value) (l1 : List Nat) (b2 : Bool) (v2 : Value) (l2 : List Nat) (w : World) (h0 : IsS w .u64 v0 l0) (u0 : Lt 18446744073709551616 l0) (h1 : IsS w .u64 v1 l1) (u1 : Lt 18446744073709551616 l1) (h2 : IsS w .u64 v2 l2) (u2 : Lt 18446744073709551616 l2) :
    Calls Tryd.prog 7 #[.agg #[.bool b0, v0], .agg #[.bool b1, v1], .agg #[.bool b2, v2]] w (RetV (.bool true) w) := by
  obtain ⟨x, hx0⟩ : ∃ x, x = cleanZ b0 l0 20 := ⟨_, rfl⟩
  have lx : lenZ x ≤ 20 := by rw [hx0]; exact cleanZ_len _ _ _
  have HX0 := Lib.hid hx0.symm
  clear hx0
  obtain ⟨y, hx1⟩ : ∃ y, y = cleanZ b1 l1 20 := ⟨_, rfl⟩
  have ly : lenZ y ≤ 20 := by rw [hx1]; exact cleanZ_len _ _ _
  have HX1 := Lib.hid hx1.symm
  clear hx1
  obtain ⟨z, hx2⟩ : ∃ z, z = cleanZ b2 l2 20 := ⟨_, rfl⟩
  have lz : lenZ z ≤ 20 := by rw [hx2]; exact cleanZ_len _ _ _
  have HX2 := Lib.hid hx2.symm
  clear hx2
  obtain ⟨A0, c0, rfl, _⟩ := id h0
  obtain ⟨A1, c1, rfl, _⟩ := id h1
  obtain ⟨A2, c2, rfl, _⟩ := id h2
  go_enter Tryd.func7, Tryd.ntmps7
  go_upto_region 1 with (fail)
  obtain ⟨w0, hwx, bb, BP0, BP1, BP2, hsz⟩ := vars3 w 25 25 25 #[.bool b0, .slice A0 l0.length c0] #[.bool b1, .slice A1 l1.length c1] #[.bool b2, .slice A2 l2.length c2]
  rw [hwx]
  clear hwx
  have kp0s := h0.below bb
  have kp1s := h1.below bb
  have kp2s := h2.below bb
  have hsz0 := bb.size
  refine flowp 2 [Pd.eq (.bool true), Pd.eq (.bool false)] (by kernel_rfl) ?ob1 ?done1
  case ob1 =>
    refine And.intro (ob_call0 rfl Tryd.func24 (by kernel_rfl) (wt_none rfl) (fun w2 hb => (works7_any _).mono fun e w3 h => RetV.pd h)) ?_
    refine And.intro (ob_un rfl (wt_none rfl) (ev_dep (j := 0) (by kernel_rfl) rfl rfl) (fun _ => un_not _ _) (fun _ => rfl)) ?_
    trivial
  case done1 =>
    refine fun w1 hb1 v0 h0 v1 h1 b hbf => ?_
    obtain rfl := h0; obtain rfl := h1
    simp only [Act.put, List.setIfInBounds_toArray, List.set_cons_zero, List.set_cons_succ] at hbf
    subst hbf
    replace BP0 := BP0.below hb1
    replace BP1 := BP1.below hb1
    replace BP2 := BP2.below hb1
    replace kp0s := kp0s.below hb1
    replace kp1s := kp1s.below hb1
    replace kp2s := kp2s.below hb1
    replace bb := bb.trans (hb1.mono bb.size)
    have hsz1 := bb.size
    refine ops_done ?_
    go_upto_region 3 with (fail)
    refine flow 6 [Pd.eq (.agg #[.bool b0, .slice A0 l0.length c0]), pz (x) w1.heap.size, Pd.eq (.agg #[.bool b1, .slice A1 l1.length c1]), pz (y) w1.heap.size, Pd.eq (.agg #[.bool b2, .slice A2 l2.length c2]), pz (z) w1.heap.size] (by kernel_rfl) (by kernel_rfl) ?ob2 ?done2
    case ob2 =>
      refine And.intro (ob_load rfl (wt_none rfl) (ev_far rfl rfl) (fun w2 hb => run_loadAll Tryd.underlying25 rfl (by kernel_rfl) (BP0.drew.below hb)) (fun _ _ => rfl)) ?_
      refine And.intro (ob_call2 rfl Tryd.func8 (by kernel_rfl) (wt_none rfl) (ev_dep (j := 0) (by kernel_rfl) rfl rfl) (ev_const _) (fun w2 u0 u1 hb h0 h1 => by obtain rfl := h0; obtain rfl := h1; exact (HX0.out ▸ zclean_any _ _ _ _ 20 _ rfl (kp0s.drew.below hb) u0 (by omega)).mono fun e w3 h => RetZ.pd h hb.size)) ?_
      refine And.intro (ob_load rfl (wt_none rfl) (ev_far rfl rfl) (fun w2 hb => run_loadAll Tryd.underlying25 rfl (by kernel_rfl) (BP1.drew.below hb)) (fun _ _ => rfl)) ?_
      refine And.intro (ob_call2 rfl Tryd.func8 (by kernel_rfl) (wt_none rfl) (ev_dep (j := 2) (by kernel_rfl) rfl rfl) (ev_const _) (fun w2 u0 u1 hb h0 h1 => by obtain rfl := h0; obtain rfl := h1; exact (HX1.out ▸ zclean_any _ _ _ _ 20 _ rfl (kp1s.drew.below hb) u1 (by omega)).mono fun e w3 h => RetZ.pd h hb.size)) ?_
      refine And.intro (ob_load rfl (wt_none rfl) (ev_far rfl rfl) (fun w2 hb => run_loadAll Tryd.underlying25 rfl (by kernel_rfl) (BP2.drew.below hb)) (fun _ _ => rfl)) ?_
      refine And.intro (ob_call2 rfl Tryd.func8 (by kernel_rfl) (wt_none rfl) (ev_dep (j := 4) (by kernel_rfl) rfl rfl) (ev_const _) (fun w2 u0 u1 hb h0 h1 => by obtain rfl := h0; obtain rfl := h1; exact (HX2.out ▸ zclean_any _ _ _ _ 20 _ rfl (kp2s.drew.below hb) u2 (by omega)).mono fun e w3 h => RetZ.pd h hb.size)) ?_
      trivial
    case done2 =>
      refine fun w2 hb2 v0 h0 v1 h1 v2 h2 v3 h3 v4 h4 v5 h5 b hbf => ?_
      obtain rfl := h0; obtain rfl := h2; obtain rfl := h4
      obtain ⟨q1, f1⟩ := h1
      obtain ⟨q3, f3⟩ := h3
      obtain ⟨q5, f5⟩ := h5
      simp only [Act.put, List.setIfInBounds_toArray, List.set_cons_zero, List.set_cons_succ] at hbf
      subst hbf
      replace BP0 := BP0.below hb2
      replace BP1 := BP1.below hb2
      replace BP2 := BP2.below hb2
      replace kp0s := kp0s.below hb2
      replace kp1s := kp1s.below hb2
      replace kp2s := kp2s.below hb2
      replace bb := bb.trans (hb2.mono bb.size)
      have hsz2 := bb.size
      obtain ⟨u1, rfl, q1⟩ := q1
      obtain ⟨A3, c3, rfl, _⟩ := id q1
      obtain ⟨u3, rfl, q3⟩ := q3
      obtain ⟨A4, c4, rfl, _⟩ := id q3
      obtain ⟨u5, rfl, q5⟩ := q5
      obtain ⟨A5, c5, rfl, _⟩ := id q5
      refine any_store (i := 6) (by kernel_rfl) rfl rfl rfl rfl rfl rfl (cells := [.bool (ngB x), .slice A3 (digs 4294967296 (x).natAbs).length c3]) rfl BP0 rfl (by kernel_rfl) (one2 rfl rfl) fun w3 hg3 BN3 => ?_
      replace q3 := off q3 BP0 no_ints2 hg3
      replace q5 := off q5 BP0 no_ints2 hg3
      replace q1 := off q1 BP0 no_ints2 hg3
      replace kp1s := off kp1s BP0 no_ints2 hg3
      replace BP1 := BP1.grown hg3 (by omega)
      replace kp2s := off kp2s BP0 no_ints2 hg3
      replace BP2 := BP2.grown hg3 (by omega)
      replace bb := bb.trans ((Below.refl _ _).grown hg3 bb.size (fun g hg => by injection hg with hg; omega))
      have hsz3 := bb.size
      have Bx : Blk w3 (w.heap.size) _ _ := BN3
      have kxs := q1
      have kx : IsZ w3 (.agg #[.bool (ngB x), .slice A3 (digs 4294967296 (x).natAbs).length c3]) (x) := ⟨_, rfl, kxs⟩
      refine any_store (i := 7) (by kernel_rfl) rfl rfl rfl rfl rfl rfl (cells := [.bool (ngB y), .slice A4 (digs 4294967296 (y).natAbs).length c4]) rfl BP1 rfl (by kernel_rfl) (one2 rfl rfl) fun w4 hg4 BN4 => ?_
      replace q5 := off q5 BP1 no_ints2 hg4
      replace q3 := off q3 BP1 no_ints2 hg4
      replace kxs := off kxs BP1 no_ints2 hg4
      replace kx : IsZ w4 (.agg #[.bool (ngB x), .slice A3 (digs 4294967296 (x).natAbs).length c3]) (x) := ⟨_, rfl, kxs⟩
      replace Bx := Bx.grown hg4 (by omega)
      replace kp2s := off kp2s BP1 no_ints2 hg4
      replace BP2 := BP2.grown hg4 (by omega)
      replace bb := bb.trans ((Below.refl _ _).grown hg4 bb.size (fun g hg => by injection hg with hg; omega))
      have hsz4 := bb.size
      have By : Blk w4 (w.heap.size + 1) _ _ := BN4
      have kys := q3
      have ky : IsZ w4 (.agg #[.bool (ngB y), .slice A4 (digs 4294967296 (y).natAbs).length c4]) (y) := ⟨_, rfl, kys⟩
      refine any_store (i := 8) (by kernel_rfl) rfl rfl rfl rfl rfl rfl (cells := [.bool (ngB z), .slice A5 (digs 4294967296 (z).natAbs).length c5]) rfl BP2 rfl (by kernel_rfl) (one2 rfl rfl) fun w5 hg5 BN5 => ?_
      replace q5 := off q5 BP2 no_ints2 hg5
      replace kxs := off kxs BP2 no_ints2 hg5
      replace kx : IsZ w5 (.agg #[.bool (ngB x), .slice A3 (digs 4294967296 (x).natAbs).length c3]) (x) := ⟨_, rfl, kxs⟩
      replace Bx := Bx.grown hg5 (by omega)
      replace kys := off kys BP2 no_ints2 hg5
      replace ky : IsZ w5 (.agg #[.bool (ngB y), .slice A4 (digs 4294967296 (y).natAbs).length c4]) (y) := ⟨_, rfl, kys⟩
      replace By := By.grown hg5 (by omega)
      replace bb := bb.trans ((Below.refl _ _).grown hg5 bb.size (fun g hg => by injection hg with hg; omega))
      have hsz5 := bb.size
      have Bz : Blk w5 (w.heap.size + 1 + 1) _ _ := BN5
      have kzs := q5
      have kz : IsZ w5 (.agg #[.bool (ngB z), .slice A5 (digs 4294967296 (z).natAbs).length c5]) (z) := ⟨_, rfl, kzs⟩
      refine any_done (by kernel_rfl) ?_
      go_upto_region 4 with (fail)
      refine flow 26 [Pd.eq (.agg #[.bool (ngB x), .slice A3 (digs 4294967296 (x).natAbs).length c3]), Pd.eq (.agg #[.bool (ngB y), .slice A4 (digs 4294967296 (y).natAbs).length c4]), pz ((x + y)) w5.heap.size, Pd.eq (.agg #[.bool (ngB z), .slice A5 (digs 4294967296 (z).natAbs).length c5]), pz (((x + y) + z)) w5.heap.size, Pd.eq (.agg #[.bool (ngB z), .slice A5 (digs 4294967296 (z).natAbs).length c5]), Pd.eq (.agg #[.bool (ngB y), .slice A4 (digs 4294967296 (y).natAbs).length c4]), Pd.eq (.agg #[.bool (ngB x), .slice A3 (digs 4294967296 (x).natAbs).length c3]), pz ((y + x)) w5.heap.size, pz ((z + (y + x))) w5.heap.size, Pd.eq (.bool true), Pd.eq (.bool false), Pd.eq (.bool false), Pd.eq (.agg #[.bool (ngB x), .slice A3 (digs 4294967296 (x).natAbs).length c3]), Pd.eq (.agg #[.bool (ngB y), .slice A4 (digs 4294967296 (y).natAbs).length c4]), pz ((x * y)) w5.heap.size, Pd.eq (.agg #[.bool (ngB z), .slice A5 (digs 4294967296 (z).natAbs).length c5]), pz (((x * y) * z)) w5.heap.size, Pd.eq (.agg #[.bool (ngB y), .slice A4 (digs 4294967296 (y).natAbs).length c4]), Pd.eq (.agg #[.bool (ngB z), .slice A5 (digs 4294967296 (z).natAbs).length c5]), Pd.eq (.agg #[.bool (ngB x), .slice A3 (digs 4294967296 (x).natAbs).length c3]), pz ((z * x)) w5.heap.size, pz ((y * (z * x))) w5.heap.size, Pd.eq (.bool true), Pd.eq (.bool false), Pd.eq (.bool false)] (by kernel_rfl) (by kernel_rfl) ?ob3 ?done3
      case ob3 =>
        refine And.intro (ob_load rfl (wt_none rfl) (ev_far rfl rfl) (fun w2 hb => run_loadAll Tryd.underlying25 rfl (by kernel_rfl) (Bx.drew.below hb)) (fun _ _ => rfl)) ?_
        refine And.intro (ob_load rfl (wt_none rfl) (ev_far rfl rfl) (fun w2 hb => run_loadAll Tryd.underlying25 rfl (by kernel_rfl) (By.drew.below hb)) (fun _ _ => rfl)) ?_
        refine And.intro (ob_call2 rfl Tryd.func11 (by kernel_rfl) (wt_none rfl) (ev_dep (j := 0) (by kernel_rfl) rfl rfl) (ev_dep (j := 1) (by kernel_rfl) rfl rfl) (fun w2 u0 u1 hb h0 h1 => by obtain rfl := h0; obtain rfl := h1; exact (zadd_any _ _ _ _ _ (kx.drew.below hb) (ky.drew.below hb) (Nat.le_trans lx (by decide)) (Nat.le_trans ly (by decide))).mono fun e w3 h => RetZ.pd h hb.size)) ?_
        refine And.intro (ob_load rfl (wt_none rfl) (ev_far rfl rfl) (fun w2 hb => run_loadAll Tryd.underlying25 rfl (by kernel_rfl) (Bz.drew.below hb)) (fun _ _ => rfl)) ?_
        refine And.intro (ob_call2 rfl Tryd.func11 (by kernel_rfl) (wt_none rfl) (ev_dep (j := 2) (by kernel_rfl) rfl rfl) (ev_dep (j := 3) (by kernel_rfl) rfl rfl) (fun w2 u0 u1 hb h0 h1 => by obtain rfl := h1; exact (zadd_any _ _ _ _ _ h0.1 (kz.drew.below hb) (Nat.le_trans (lenZ_add_le lx ly) (by decide)) (Nat.le_trans lz (by decide))).mono fun e w3 h => RetZ.pd h hb.size)) ?_
        refine And.intro (ob_load rfl (wt_none rfl) (ev_far rfl rfl) (fun w2 hb => run_loadAll Tryd.underlying25 rfl (by kernel_rfl) (Bz.drew.below hb)) (fun _ _ => rfl)) ?_
        refine And.intro (ob_load rfl (wt_none rfl) (ev_far rfl rfl) (fun w2 hb => run_loadAll Tryd.underlying25 rfl (by kernel_rfl) (By.drew.below hb)) (fun _ _ => rfl)) ?_
        refine And.intro (ob_load rfl (wt_none rfl) (ev_far rfl rfl) (fun w2 hb => run_loadAll Tryd.underlying25 rfl (by kernel_rfl) (Bx.drew.below hb)) (fun _ _ => rfl)) ?_
        refine And.intro (ob_call2 rfl Tryd.func11 (by kernel_rfl) (wt_none rfl) (ev_dep (j := 6) (by kernel_rfl) rfl rfl) (ev_dep (j := 7) (by kernel_rfl) rfl rfl) (fun w2 u0 u1 hb h0 h1 => by obtain rfl := h0; obtain rfl := h1; exact (zadd_any _ _ _ _ _ (ky.drew.below hb) (kx.drew.below hb) (Nat.le_trans ly (by decide)) (Nat.le_trans lx (by decide))).mono fun e w3 h => RetZ.pd h hb.size)) ?_
        refine And.intro (ob_call2 rfl Tryd.func11 (by kernel_rfl) (wt_none rfl) (ev_dep (j := 5) (by kernel_rfl) rfl rfl) (ev_dep (j := 8) (by kernel_rfl) rfl rfl) (fun w2 u0 u1 hb h0 h1 => by obtain rfl := h0; exact (zadd_any _ _ _ _ _ (kz.drew.below hb) h1.1 (Nat.le_trans lz (by decide)) (Nat.le_trans (lenZ_add_le ly lx) (by decide))).mono fun e w3 h => RetZ.pd h hb.size)) ?_
        refine And.intro (ob_call2 rfl Tryd.func10 (by kernel_rfl) (wt_none rfl) (ev_dep (j := 4) (by kernel_rfl) rfl rfl) (ev_dep (j := 9) (by kernel_rfl) rfl rfl) (fun w2 u0 u1 hb h0 h1 => by exact (zsame_eq _ _ (((x + y) + z)) ((z + (y + x))) _ h0.1 h1.1 (by omega)).mono fun e w3 h => RetV.pd h)) ?_
        refine And.intro (ob_un rfl (wt_none rfl) (ev_dep (j := 10) (by kernel_rfl) rfl rfl) (fun _ => un_not _ _) (fun _ => rfl)) ?_
        refine And.intro (ob_move rfl (wt_none rfl) (ev_dep (j := 11) (by kernel_rfl) rfl rfl) (fun _ _ h => h)) ?_
        refine And.intro (ob_load rfl (wt_dep (c := false) (b := false) (g := 12) rfl (by kernel_rfl) rfl rfl rfl (by exact fun _ _ h => h)) (ev_far rfl rfl) (fun w2 hb => run_loadAll Tryd.underlying25 rfl (by kernel_rfl) (Bx.drew.below hb)) (fun _ _ => rfl)) ?_
        refine And.intro (ob_load rfl (wt_dep (c := false) (b := false) (g := 12) rfl (by kernel_rfl) rfl rfl rfl (by exact fun _ _ h => h)) (ev_far rfl rfl) (fun w2 hb => run_loadAll Tryd.underlying25 rfl (by kernel_rfl) (By.drew.below hb)) (fun _ _ => rfl)) ?_
        refine And.intro (ob_call2 rfl Tryd.func16 (by kernel_rfl) (wt_dep (c := false) (b := false) (g := 12) rfl (by kernel_rfl) rfl rfl rfl (by exact fun _ _ h => h)) (ev_dep (j := 13) (by kernel_rfl) rfl rfl) (ev_dep (j := 14) (by kernel_rfl) rfl rfl) (fun w2 u0 u1 hb h0 h1 => by obtain rfl := h0; obtain rfl := h1; exact (zmul_any _ _ _ _ _ _ (kx.drew.below hb) (ky.drew.below hb) (Nat.le_trans lx (by decide)) (Nat.le_trans ly (by decide)) rfl).mono fun e w3 h => RetZ.pd h hb.size)) ?_
        refine And.intro (ob_load rfl (wt_dep (c := false) (b := false) (g := 12) rfl (by kernel_rfl) rfl rfl rfl (by exact fun _ _ h => h)) (ev_far rfl rfl) (fun w2 hb => run_loadAll Tryd.underlying25 rfl (by kernel_rfl) (Bz.drew.below hb)) (fun _ _ => rfl)) ?_
        refine And.intro (ob_call2 rfl Tryd.func16 (by kernel_rfl) (wt_dep (c := false) (b := false) (g := 12) rfl (by kernel_rfl) rfl rfl rfl (by exact fun _ _ h => h)) (ev_dep (j := 15) (by kernel_rfl) rfl rfl) (ev_dep (j := 16) (by kernel_rfl) rfl rfl) (fun w2 u0 u1 hb h0 h1 => by obtain rfl := h1; exact (zmul_any _ _ _ _ _ _ h0.1 (kz.drew.below hb) (Nat.le_trans (lenZ_mul_le lx ly) (by decide)) (Nat.le_trans lz (by decide)) rfl).mono fun e w3 h => RetZ.pd h hb.size)) ?_
        refine And.intro (ob_load rfl (wt_dep (c := false) (b := false) (g := 12) rfl (by kernel_rfl) rfl rfl rfl (by exact fun _ _ h => h)) (ev_far rfl rfl) (fun w2 hb => run_loadAll Tryd.underlying25 rfl (by kernel_rfl) (By.drew.below hb)) (fun _ _ => rfl)) ?_
        refine And.intro (ob_load rfl (wt_dep (c := false) (b := false) (g := 12) rfl (by kernel_rfl) rfl rfl rfl (by exact fun _ _ h => h)) (ev_far rfl rfl) (fun w2 hb => run_loadAll Tryd.underlying25 rfl (by kernel_rfl) (Bz.drew.below hb)) (fun _ _ => rfl)) ?_
        refine And.intro (ob_load rfl (wt_dep (c := false) (b := false) (g := 12) rfl (by kernel_rfl) rfl rfl rfl (by exact fun _ _ h => h)) (ev_far rfl rfl) (fun w2 hb => run_loadAll Tryd.underlying25 rfl (by kernel_rfl) (Bx.drew.below hb)) (fun _ _ => rfl)) ?_
        refine And.intro (ob_call2 rfl Tryd.func16 (by kernel_rfl) (wt_dep (c := false) (b := false) (g := 12) rfl (by kernel_rfl) rfl rfl rfl (by exact fun _ _ h => h)) (ev_dep (j := 19) (by kernel_rfl) rfl rfl) (ev_dep (j := 20) (by kernel_rfl) rfl rfl) (fun w2 u0 u1 hb h0 h1 => by obtain rfl := h0; obtain rfl := h1; exact (zmul_any _ _ _ _ _ _ (kz.drew.below hb) (kx.drew.below hb) (Nat.le_trans lz (by decide)) (Nat.le_trans lx (by decide)) rfl).mono fun e w3 h => RetZ.pd h hb.size)) ?_
        refine And.intro (ob_call2 rfl Tryd.func16 (by kernel_rfl) (wt_dep (c := false) (b := false) (g := 12) rfl (by kernel_rfl) rfl rfl rfl (by exact fun _ _ h => h)) (ev_dep (j := 18) (by kernel_rfl) rfl rfl) (ev_dep (j := 21) (by kernel_rfl) rfl rfl) (fun w2 u0 u1 hb h0 h1 => by obtain rfl := h0; exact (zmul_any _ _ _ _ _ _ (ky.drew.below hb) h1.1 (Nat.le_trans ly (by decide)) (Nat.le_trans (lenZ_mul_le lz lx) (by decide)) rfl).mono fun e w3 h => RetZ.pd h hb.size)) ?_
        refine And.intro (ob_call2 rfl Tryd.func10 (by kernel_rfl) (wt_dep (c := false) (b := false) (g := 12) rfl (by kernel_rfl) rfl rfl rfl (by exact fun _ _ h => h)) (ev_dep (j := 17) (by kernel_rfl) rfl rfl) (ev_dep (j := 22) (by kernel_rfl) rfl rfl) (fun w2 u0 u1 hb h0 h1 => by exact (zsame_eq _ _ (((x * y) * z)) ((y * (z * x))) _ h0.1 h1.1 (by rw [Int.mul_comm x y, Int.mul_assoc, Int.mul_comm x z])).mono fun e w3 h => RetV.pd h)) ?_
        refine And.intro (ob_un rfl (wt_dep (c := false) (b := false) (g := 12) rfl (by kernel_rfl) rfl rfl rfl (by exact fun _ _ h => h)) (ev_dep (j := 23) (by kernel_rfl) rfl rfl) (fun _ => un_not _ _) (fun _ => rfl)) ?_
        refine And.intro (ob_pick (b := false) rfl (wt_none rfl) (ev_dep (j := 12) (by kernel_rfl) rfl rfl) (ev_dep (j := 24) (by kernel_rfl) rfl rfl) (fun _ _ h => h)) ?_
        trivial
      case done3 =>
        refine fun w6 hb6 v0 h0 v1 h1 v2 h2 v3 h3 v4 h4 v5 h5 v6 h6 v7 h7 v8 h8 v9 h9 v10 h10 v11 h11 v12 h12 v13 h13 v14 h14 v15 h15 v16 h16 v17 h17 v18 h18 v19 h19 v20 h20 v21 h21 v22 h22 v23 h23 v24 h24 v25 h25 b hbf => ?_
        obtain rfl := h0; obtain rfl := h1; obtain rfl := h3; obtain rfl := h5; obtain rfl := h6; obtain rfl := h7; obtain rfl := h10; obtain rfl := h11; obtain rfl := h12; obtain rfl := h13; obtain rfl := h14; obtain rfl := h16; obtain rfl := h18; obtain rfl := h19; obtain rfl := h20; obtain rfl := h23; obtain rfl := h24; obtain rfl := h25
        obtain ⟨q2, f2⟩ := h2
        obtain ⟨q4, f4⟩ := h4
        obtain ⟨q8, f8⟩ := h8
        obtain ⟨q9, f9⟩ := h9
        obtain ⟨q15, f15⟩ := h15
        obtain ⟨q17, f17⟩ := h17
        obtain ⟨q21, f21⟩ := h21
        obtain ⟨q22, f22⟩ := h22
        simp only [Act.put, List.setIfInBounds_toArray, List.set_cons_zero, List.set_cons_succ] at hbf
        subst hbf
        replace Bx := Bx.below hb6
        replace By := By.below hb6
        replace Bz := Bz.below hb6
        replace kxs := kxs.below hb6
        replace kys := kys.below hb6
        replace kzs := kzs.below hb6
        replace kx := kx.below hb6
        replace ky := ky.below hb6
        replace kz := kz.below hb6
        replace bb := bb.trans (hb6.mono bb.size)
        have hsz6 := bb.size
        refine any_done (by kernel_rfl) ?_
        go_upto_region 6 with (fail)
        refine flow 34 [Pd.eq (.agg #[.bool (ngB x), .slice A3 (digs 4294967296 (x).natAbs).length c3]), Pd.eq (.agg #[.bool (ngB y), .slice A4 (digs 4294967296 (y).natAbs).length c4]), Pd.eq (.agg #[.bool (ngB z), .slice A5 (digs 4294967296 (z).natAbs).length c5]), pz ((y + z)) w6.heap.size, pz ((x * (y + z))) w6.heap.size, Pd.eq (.agg #[.bool (ngB x), .slice A3 (digs 4294967296 (x).natAbs).length c3]), Pd.eq (.agg #[.bool (ngB y), .slice A4 (digs 4294967296 (y).natAbs).length c4]), pz ((x * y)) w6.heap.size, Pd.eq (.agg #[.bool (ngB x), .slice A3 (digs 4294967296 (x).natAbs).length c3]), Pd.eq (.agg #[.bool (ngB z), .slice A5 (digs 4294967296 (z).natAbs).length c5]), pz ((x * z)) w6.heap.size, pz (((x * y) + (x * z))) w6.heap.size, Pd.eq (.bool true), Pd.eq (.bool false), Pd.eq (.bool false), Pd.eq (.agg #[.bool (ngB x), .slice A3 (digs 4294967296 (x).natAbs).length c3]), Pd.eq (.agg #[.bool (ngB y), .slice A4 (digs 4294967296 (y).natAbs).length c4]), pz ((x + y)) w6.heap.size, Pd.eq (.agg #[.bool (ngB y), .slice A4 (digs 4294967296 (y).natAbs).length c4]), pz (((x + y) - y)) w6.heap.size, Pd.eq (.agg #[.bool (ngB x), .slice A3 (digs 4294967296 (x).natAbs).length c3]), Pd.eq (.bool true), Pd.eq (.bool false), Pd.eq (.bool false), Pd.eq (.bool false), Pd.eq (.agg #[.bool (ngB x), .slice A3 (digs 4294967296 (x).natAbs).length c3]), Pd.eq (.agg #[.bool (ngB y), .slice A4 (digs 4294967296 (y).natAbs).length c4]), Pd.eq (.int .i64 (ordz (x) (y))), Pd.eq (.agg #[.bool (ngB y), .slice A4 (digs 4294967296 (y).natAbs).length c4]), Pd.eq (.agg #[.bool (ngB x), .slice A3 (digs 4294967296 (x).natAbs).length c3]), Pd.eq (.int .i64 (ordz (y) (x))), Pd.eq (.int .i64 (-((ordz (y) (x))))), Pd.eq (.bool false), Pd.eq (.bool false)] (by kernel_rfl) (by kernel_rfl) ?ob4 ?done4
        case ob4 =>
          refine And.intro (ob_load rfl (wt_none rfl) (ev_far rfl rfl) (fun w2 hb => run_loadAll Tryd.underlying25 rfl (by kernel_rfl) (Bx.drew.below hb)) (fun _ _ => rfl)) ?_
          refine And.intro (ob_load rfl (wt_none rfl) (ev_far rfl rfl) (fun w2 hb => run_loadAll Tryd.underlying25 rfl (by kernel_rfl) (By.drew.below hb)) (fun _ _ => rfl)) ?_
          refine And.intro (ob_load rfl (wt_none rfl) (ev_far rfl rfl) (fun w2 hb => run_loadAll Tryd.underlying25 rfl (by kernel_rfl) (Bz.drew.below hb)) (fun _ _ => rfl)) ?_
          refine And.intro (ob_call2 rfl Tryd.func11 (by kernel_rfl) (wt_none rfl) (ev_dep (j := 1) (by kernel_rfl) rfl rfl) (ev_dep (j := 2) (by kernel_rfl) rfl rfl) (fun w2 u0 u1 hb h0 h1 => by obtain rfl := h0; obtain rfl := h1; exact (zadd_any _ _ _ _ _ (ky.drew.below hb) (kz.drew.below hb) (Nat.le_trans ly (by decide)) (Nat.le_trans lz (by decide))).mono fun e w3 h => RetZ.pd h hb.size)) ?_
          refine And.intro (ob_call2 rfl Tryd.func16 (by kernel_rfl) (wt_none rfl) (ev_dep (j := 0) (by kernel_rfl) rfl rfl) (ev_dep (j := 3) (by kernel_rfl) rfl rfl) (fun w2 u0 u1 hb h0 h1 => by obtain rfl := h0; exact (zmul_any _ _ _ _ _ _ (kx.drew.below hb) h1.1 (Nat.le_trans lx (by decide)) (Nat.le_trans (lenZ_add_le ly lz) (by decide)) rfl).mono fun e w3 h => RetZ.pd h hb.size)) ?_
          refine And.intro (ob_load rfl (wt_none rfl) (ev_far rfl rfl) (fun w2 hb => run_loadAll Tryd.underlying25 rfl (by kernel_rfl) (Bx.drew.below hb)) (fun _ _ => rfl)) ?_
          refine And.intro (ob_load rfl (wt_none rfl) (ev_far rfl rfl) (fun w2 hb => run_loadAll Tryd.underlying25 rfl (by kernel_rfl) (By.drew.below hb)) (fun _ _ => rfl)) ?_
          refine And.intro (ob_call2 rfl Tryd.func16 (by kernel_rfl) (wt_none rfl) (ev_dep (j := 5) (by kernel_rfl) rfl rfl) (ev_dep (j := 6) (by kernel_rfl) rfl rfl) (fun w2 u0 u1 hb h0 h1 => by obtain rfl := h0; obtain rfl := h1; exact (zmul_any _ _ _ _ _ _ (kx.drew.below hb) (ky.drew.below hb) (Nat.le_trans lx (by decide)) (Nat.le_trans ly (by decide)) rfl).mono fun e w3 h => RetZ.pd h hb.size)) ?_
          refine And.intro (ob_load rfl (wt_none rfl) (ev_far rfl rfl) (fun w2 hb => run_loadAll Tryd.underlying25 rfl (by kernel_rfl) (Bx.drew.below hb)) (fun _ _ => rfl)) ?_
          refine And.intro (ob_load rfl (wt_none rfl) (ev_far rfl rfl) (fun w2 hb => run_loadAll Tryd.underlying25 rfl (by kernel_rfl) (Bz.drew.below hb)) (fun _ _ => rfl)) ?_
          refine And.intro (ob_call2 rfl Tryd.func16 (by kernel_rfl) (wt_none rfl) (ev_dep (j := 8) (by kernel_rfl) rfl rfl) (ev_dep (j := 9) (by kernel_rfl) rfl rfl) (fun w2 u0 u1 hb h0 h1 => by obtain rfl := h0; obtain rfl := h1; exact (zmul_any _ _ _ _ _ _ (kx.drew.below hb) (kz.drew.below hb) (Nat.le_trans lx (by decide)) (Nat.le_trans lz (by decide)) rfl).mono fun e w3 h => RetZ.pd h hb.size)) ?_
          refine And.intro (ob_call2 rfl Tryd.func11 (by kernel_rfl) (wt_none rfl) (ev_dep (j := 7) (by kernel_rfl) rfl rfl) (ev_dep (j := 10) (by kernel_rfl) rfl rfl) (fun w2 u0 u1 hb h0 h1 => by exact (zadd_any _ _ _ _ _ h0.1 h1.1 (Nat.le_trans (lenZ_mul_le lx ly) (by decide)) (Nat.le_trans (lenZ_mul_le lx lz) (by decide))).mono fun e w3 h => RetZ.pd h hb.size)) ?_
          refine And.intro (ob_call2 rfl Tryd.func10 (by kernel_rfl) (wt_none rfl) (ev_dep (j := 4) (by kernel_rfl) rfl rfl) (ev_dep (j := 11) (by kernel_rfl) rfl rfl) (fun w2 u0 u1 hb h0 h1 => by exact (zsame_eq _ _ ((x * (y + z))) (((x * y) + (x * z))) _ h0.1 h1.1 (Int.mul_add x y z)).mono fun e w3 h => RetV.pd h)) ?_
          refine And.intro (ob_un rfl (wt_none rfl) (ev_dep (j := 12) (by kernel_rfl) rfl rfl) (fun _ => un_not _ _) (fun _ => rfl)) ?_
          refine And.intro (ob_move rfl (wt_none rfl) (ev_dep (j := 13) (by kernel_rfl) rfl rfl) (fun _ _ h => h)) ?_
          refine And.intro (ob_load rfl (wt_dep (c := false) (b := false) (g := 14) rfl (by kernel_rfl) rfl rfl rfl (by exact fun _ _ h => h)) (ev_far rfl rfl) (fun w2 hb => run_loadAll Tryd.underlying25 rfl (by kernel_rfl) (Bx.drew.below hb)) (fun _ _ => rfl)) ?_
          refine And.intro (ob_load rfl (wt_dep (c := false) (b := false) (g := 14) rfl (by kernel_rfl) rfl rfl rfl (by exact fun _ _ h => h)) (ev_far rfl rfl) (fun w2 hb => run_loadAll Tryd.underlying25 rfl (by kernel_rfl) (By.drew.below hb)) (fun _ _ => rfl)) ?_
          refine And.intro (ob_call2 rfl Tryd.func11 (by kernel_rfl) (wt_dep (c := false) (b := false) (g := 14) rfl (by kernel_rfl) rfl rfl rfl (by exact fun _ _ h => h)) (ev_dep (j := 15) (by kernel_rfl) rfl rfl) (ev_dep (j := 16) (by kernel_rfl) rfl rfl) (fun w2 u0 u1 hb h0 h1 => by obtain rfl := h0; obtain rfl := h1; exact (zadd_any _ _ _ _ _ (kx.drew.below hb) (ky.drew.below hb) (Nat.le_trans lx (by decide)) (Nat.le_trans ly (by decide))).mono fun e w3 h => RetZ.pd h hb.size)) ?_
          refine And.intro (ob_load rfl (wt_dep (c := false) (b := false) (g := 14) rfl (by kernel_rfl) rfl rfl rfl (by exact fun _ _ h => h)) (ev_far rfl rfl) (fun w2 hb => run_loadAll Tryd.underlying25 rfl (by kernel_rfl) (By.drew.below hb)) (fun _ _ => rfl)) ?_
          refine And.intro (ob_call2 rfl Tryd.func14 (by kernel_rfl) (wt_dep (c := false) (b := false) (g := 14) rfl (by kernel_rfl) rfl rfl rfl (by exact fun _ _ h => h)) (ev_dep (j := 17) (by kernel_rfl) rfl rfl) (ev_dep (j := 18) (by kernel_rfl) rfl rfl) (fun w2 u0 u1 hb h0 h1 => by obtain rfl := h1; exact (zsub_any _ _ _ _ _ h0.1 (ky.drew.below hb) (Nat.le_trans (lenZ_add_le lx ly) (by decide)) (Nat.le_trans ly (by decide))).mono fun e w3 h => RetZ.pd h hb.size)) ?_
          refine And.intro (ob_load rfl (wt_dep (c := false) (b := false) (g := 14) rfl (by kernel_rfl) rfl rfl rfl (by exact fun _ _ h => h)) (ev_far rfl rfl) (fun w2 hb => run_loadAll Tryd.underlying25 rfl (by kernel_rfl) (Bx.drew.below hb)) (fun _ _ => rfl)) ?_
          refine And.intro (ob_call2 rfl Tryd.func10 (by kernel_rfl) (wt_dep (c := false) (b := false) (g := 14) rfl (by kernel_rfl) rfl rfl rfl (by exact fun _ _ h => h)) (ev_dep (j := 19) (by kernel_rfl) rfl rfl) (ev_dep (j := 20) (by kernel_rfl) rfl rfl) (fun w2 u0 u1 hb h0 h1 => by obtain rfl := h1; exact (zsame_eq _ _ (((x + y) - y)) (x) _ h0.1 (kx.drew.below hb) (by omega)).mono fun e w3 h => RetV.pd h)) ?_
          refine And.intro (ob_un rfl (wt_dep (c := false) (b := false) (g := 14) rfl (by kernel_rfl) rfl rfl rfl (by exact fun _ _ h => h)) (ev_dep (j := 21) (by kernel_rfl) rfl rfl) (fun _ => un_not _ _) (fun _ => rfl)) ?_
          refine And.intro (ob_pick (b := false) rfl (wt_none rfl) (ev_dep (j := 14) (by kernel_rfl) rfl rfl) (ev_dep (j := 22) (by kernel_rfl) rfl rfl) (fun _ _ h => h)) ?_
          refine And.intro (ob_move rfl (wt_none rfl) (ev_dep (j := 23) (by kernel_rfl) rfl rfl) (fun _ _ h => h)) ?_
          refine And.intro (ob_load rfl (wt_dep (c := false) (b := false) (g := 24) rfl (by kernel_rfl) rfl rfl rfl (by exact fun _ _ h => h)) (ev_far rfl rfl) (fun w2 hb => run_loadAll Tryd.underlying25 rfl (by kernel_rfl) (Bx.drew.below hb)) (fun _ _ => rfl)) ?_
          refine And.intro (ob_load rfl (wt_dep (c := false) (b := false) (g := 24) rfl (by kernel_rfl) rfl rfl rfl (by exact fun _ _ h => h)) (ev_far rfl rfl) (fun w2 hb => run_loadAll Tryd.underlying25 rfl (by kernel_rfl) (By.drew.below hb)) (fun _ _ => rfl)) ?_
          refine And.intro (ob_call2 rfl Tryd.func20 (by kernel_rfl) (wt_dep (c := false) (b := false) (g := 24) rfl (by kernel_rfl) rfl rfl rfl (by exact fun _ _ h => h)) (ev_dep (j := 25) (by kernel_rfl) rfl rfl) (ev_dep (j := 26) (by kernel_rfl) rfl rfl) (fun w2 u0 u1 hb h0 h1 => by obtain rfl := h0; obtain rfl := h1; exact (zcmp_any _ _ _ _ _ _ (kx.drew.below hb) (ky.drew.below hb) rfl).mono fun e w3 h => RetV.pd h)) ?_
          refine And.intro (ob_load rfl (wt_dep (c := false) (b := false) (g := 24) rfl (by kernel_rfl) rfl rfl rfl (by exact fun _ _ h => h)) (ev_far rfl rfl) (fun w2 hb => run_loadAll Tryd.underlying25 rfl (by kernel_rfl) (By.drew.below hb)) (fun _ _ => rfl)) ?_
          refine And.intro (ob_load rfl (wt_dep (c := false) (b := false) (g := 24) rfl (by kernel_rfl) rfl rfl rfl (by exact fun _ _ h => h)) (ev_far rfl rfl) (fun w2 hb => run_loadAll Tryd.underlying25 rfl (by kernel_rfl) (Bx.drew.below hb)) (fun _ _ => rfl)) ?_
          refine And.intro (ob_call2 rfl Tryd.func20 (by kernel_rfl) (wt_dep (c := false) (b := false) (g := 24) rfl (by kernel_rfl) rfl rfl rfl (by exact fun _ _ h => h)) (ev_dep (j := 28) (by kernel_rfl) rfl rfl) (ev_dep (j := 29) (by kernel_rfl) rfl rfl) (fun w2 u0 u1 hb h0 h1 => by obtain rfl := h0; obtain rfl := h1; exact (zcmp_any _ _ _ _ _ _ (ky.drew.below hb) (kx.drew.below hb) rfl).mono fun e w3 h => RetV.pd h)) ?_
          refine And.intro (ob_un rfl (wt_dep (c := false) (b := false) (g := 24) rfl (by kernel_rfl) rfl rfl rfl (by exact fun _ _ h => h)) (ev_dep (j := 30) (by kernel_rfl) rfl rfl) (fun _ => un_neg _ _ (by have := ordz_bd (y) (x); omega)) (fun _ => rfl)) ?_
          refine And.intro (ob_bin rfl (wt_dep (c := false) (b := false) (g := 24) rfl (by kernel_rfl) rfl rfl rfl (by exact fun _ _ h => h)) (ev_dep (j := 27) (by kernel_rfl) rfl rfl) (ev_dep (j := 31) (by kernel_rfl) rfl rfl) (fun _ _ _ hx hy => ⟨.bool (ordz (x) (y) != -(ordz (y) (x))), by rw [hx, hy]; exact bin_neq_int _ _ _ _ _, congrArg Value.bool (by rw [ordz_neg x y, Int.neg_neg]; exact bne_self_eq_false _)⟩)) ?_
          refine And.intro (ob_pick (b := false) rfl (wt_none rfl) (ev_dep (j := 24) (by kernel_rfl) rfl rfl) (ev_dep (j := 32) (by kernel_rfl) rfl rfl) (fun _ _ h => h)) ?_
          trivial
        case done4 =>
          refine fun w7 hb7 v0 h0 v1 h1 v2 h2 v3 h3 v4 h4 v5 h5 v6 h6 v7 h7 v8 h8 v9 h9 v10 h10 v11 h11 v12 h12 v13 h13 v14 h14 v15 h15 v16 h16 v17 h17 v18 h18 v19 h19 v20 h20 v21 h21 v22 h22 v23 h23 v24 h24 v25 h25 v26 h26 v27 h27 v28 h28 v29 h29 v30 h30 v31 h31 v32 h32 v33 h33 b hbf => ?_
          obtain rfl := h0; obtain rfl := h1; obtain rfl := h2; obtain rfl := h5; obtain rfl := h6; obtain rfl := h8; obtain rfl := h9; obtain rfl := h12; obtain rfl := h13; obtain rfl := h14; obtain rfl := h15; obtain rfl := h16; obtain rfl := h18; obtain rfl := h20; obtain rfl := h21; obtain rfl := h22; obtain rfl := h23; obtain rfl := h24; obtain rfl := h25; obtain rfl := h26; obtain rfl := h27; obtain rfl := h28; obtain rfl := h29; obtain rfl := h30; obtain rfl := h31; obtain rfl := h32; obtain rfl := h33
          obtain ⟨q3, f3⟩ := h3
          obtain ⟨q4, f4⟩ := h4
          obtain ⟨q7, f7⟩ := h7
          obtain ⟨q10, f10⟩ := h10
          obtain ⟨q11, f11⟩ := h11
          obtain ⟨q17, f17⟩ := h17
          obtain ⟨q19, f19⟩ := h19
          simp only [Act.put, List.setIfInBounds_toArray, List.set_cons_zero, List.set_cons_succ] at hbf
          subst hbf
          replace Bx := Bx.below hb7
          replace By := By.below hb7
          replace Bz := Bz.below hb7
          replace kxs := kxs.below hb7
          replace kys := kys.below hb7
          replace kzs := kzs.below hb7
          replace kx := kx.below hb7
          replace ky := ky.below hb7
          replace kz := kz.below hb7
          replace bb := bb.trans (hb7.mono bb.size)
          have hsz7 := bb.size
          refine any_done (by kernel_rfl) ?_
          by_cases hy0 : y = 0
          · go_upto_region 8 with (fail)
            have lt7_3 := Blk.lt Bx
            have lt7_4 := Blk.lt By
            have lt7_5 := Blk.lt Bz
            refine flowp 9 [Pd.eq (.agg #[.bool (ngB x), .slice A3 (digs 4294967296 (x).natAbs).length c3]), Pd.eq (.agg #[.bool (ngB y), .slice A4 (digs 4294967296 (y).natAbs).length c4]), pzz ((0 : Int)) ((0 : Int)) 3 w7.heap.size, pzz ((0 : Int)) ((0 : Int)) 3 w7.heap.size, pz ((0 : Int)) w7.heap.size, pz ((0 : Int)) w7.heap.size, Pd.eq (.int .i64 3), pn 25 #[.bool false, .slice none 0 0] w7.heap.size, pn 25 #[.bool false, .slice none 0 0] w7.heap.size] (by kernel_rfl) ?ob5 ?done5
            case ob5 =>
              refine And.intro (ob_load rfl (wt_none rfl) (ev_far rfl rfl) (fun w2 hb => run_loadAll Tryd.underlying25 rfl (by kernel_rfl) (Bx.below hb)) (fun _ _ => rfl)) ?_
              refine And.intro (ob_load rfl (wt_none rfl) (ev_far rfl rfl) (fun w2 hb => run_loadAll Tryd.underlying25 rfl (by kernel_rfl) (By.below hb)) (fun _ _ => rfl)) ?_
              refine And.intro (ob_call2 rfl Tryd.func33 (by kernel_rfl) (wt_none rfl) (ev_dep (j := 0) (by kernel_rfl) rfl rfl) (ev_dep (j := 1) (by kernel_rfl) rfl rfl) (fun w2 u0 u1 hb h0 h1 => by obtain rfl := h0; obtain rfl := h1; exact (zfloor_zero _ _ _ _ _ (kx.below hb) (ky.below hb) hy0).mono fun e w3 h => RetZZE.pd h hb.size)) ?_
              refine And.intro (ob_move rfl (wt_none rfl) (ev_dep (j := 2) (by kernel_rfl) rfl rfl) (fun _ _ h => h)) ?_
              refine And.intro (ob_extract rfl (wt_none rfl) (ev_dep (j := 3) (by kernel_rfl) rfl rfl) (fun w2 u hu => by obtain ⟨v, u, rfl, q1, q2, q3, q4⟩ := hu; exact ⟨v, rfl, q1, q3⟩)) ?_
              refine And.intro (ob_extract rfl (wt_none rfl) (ev_dep (j := 3) (by kernel_rfl) rfl rfl) (fun w2 u hu => by obtain ⟨v, u, rfl, q1, q2, q3, q4⟩ := hu; exact ⟨u, rfl, q2, q4⟩)) ?_
              refine And.intro (ob_extract rfl (wt_none rfl) (ev_dep (j := 3) (by kernel_rfl) rfl rfl) (fun w2 u hu => by obtain ⟨v, u, rfl, q1, q2, q3, q4⟩ := hu; exact ⟨_, rfl, rfl⟩)) ?_
              refine And.intro (ob_alloc (z := .agg #[.bool false, .slice none 0 0]) rfl rfl (fun _ => by kernel_rfl) (fun _ _ hB h => ⟨_, rfl, hB, h⟩)) ?_
              refine And.intro (ob_alloc (z := .agg #[.bool false, .slice none 0 0]) rfl rfl (fun _ => by kernel_rfl) (fun _ _ hB h => ⟨_, rfl, hB, h⟩)) ?_
              trivial
            case done5 =>
              refine fun w8 hb8 v0 h0 v1 h1 v2 h2 v3 h3 v4 h4 v5 h5 v6 h6 v7 h7 d7 v8 h8 d8 b hbf => ?_
              obtain rfl := h0; obtain rfl := h1; obtain rfl := h6
              clear h2
              clear h3
              obtain ⟨q4, f4⟩ := h4
              obtain ⟨q5, f5⟩ := h5
              obtain ⟨g7, rfl, hg7, B7⟩ := h7
              obtain ⟨g8, rfl, hg8, B8⟩ := h8
              simp only [Act.put, List.setIfInBounds_toArray, List.set_cons_zero, List.set_cons_succ] at hbf
              subst hbf
              replace Bx := Bx.below hb8
              replace By := By.below hb8
              replace Bz := Bz.below hb8
              replace kxs := kxs.below hb8
              replace kys := kys.below hb8
              replace kzs := kzs.below hb8
              replace kx := kx.below hb8
              replace ky := ky.below hb8
              replace kz := kz.below hb8
              replace bb := bb.trans (hb8.mono bb.size)
              have hsz8 := bb.size
              have BA7 := B7
              have BA8 := B8
              have hne7_8 : g7 ≠ g8 := fun e => d8 (.pointer (some ⟨g7, 0, none⟩)) (by simp) (by rw [e])
              obtain ⟨u4, rfl, q4⟩ := q4
              obtain ⟨A7, c7, rfl, _⟩ := id q4
              obtain ⟨u5, rfl, q5⟩ := q5
              obtain ⟨A8, c8, rfl, _⟩ := id q5
              refine ops_store (i := 9) rfl rfl rfl rfl rfl rfl (cells := [.bool (ngB (0 : Int)), .slice A7 (digs 4294967296 ((0 : Int)).natAbs).length c7]) rfl BA7 rfl (by kernel_rfl) (one2 rfl rfl) fun w9 hg9 BN9 => ?_
              replace q5 := off q5 BA7 no_ints2 hg9
              replace q4 := off q4 BA7 no_ints2 hg9
              replace kxs := off kxs BA7 no_ints2 hg9
              replace kx : IsZ w9 (.agg #[.bool (ngB x), .slice A3 (digs 4294967296 (x).natAbs).length c3]) (x) := ⟨_, rfl, kxs⟩
              replace Bx := Bx.grown hg9 (by omega)
              replace kys := off kys BA7 no_ints2 hg9
              replace ky : IsZ w9 (.agg #[.bool (ngB y), .slice A4 (digs 4294967296 (y).natAbs).length c4]) (y) := ⟨_, rfl, kys⟩
              replace By := By.grown hg9 (by omega)
              replace kzs := off kzs BA7 no_ints2 hg9
              replace kz : IsZ w9 (.agg #[.bool (ngB z), .slice A5 (digs 4294967296 (z).natAbs).length c5]) (z) := ⟨_, rfl, kzs⟩
              replace Bz := Bz.grown hg9 (by omega)
              replace BA8 := BA8.grown hg9 (by omega)
              replace bb := bb.trans ((Below.refl _ _).grown hg9 bb.size (fun g hg => by injection hg with hg; omega))
              have hsz9 := bb.size
              have Bq : Blk w9 (g7) _ _ := BN9
              have kqs := q4
              have kq : IsZ w9 (.agg #[.bool (ngB (0 : Int)), .slice A7 (digs 4294967296 ((0 : Int)).natAbs).length c7]) ((0 : Int)) := ⟨_, rfl, kqs⟩
              refine ops_store (i := 10) rfl rfl rfl rfl rfl rfl (cells := [.bool (ngB (0 : Int)), .slice A8 (digs 4294967296 ((0 : Int)).natAbs).length c8]) rfl BA8 rfl (by kernel_rfl) (one2 rfl rfl) fun w10 hg10 BN10 => ?_
              replace q5 := off q5 BA8 no_ints2 hg10
              replace kxs := off kxs BA8 no_ints2 hg10
              replace kx : IsZ w10 (.agg #[.bool (ngB x), .slice A3 (digs 4294967296 (x).natAbs).length c3]) (x) := ⟨_, rfl, kxs⟩
              replace Bx := Bx.grown hg10 (by omega)
              replace kys := off kys BA8 no_ints2 hg10
              replace ky : IsZ w10 (.agg #[.bool (ngB y), .slice A4 (digs 4294967296 (y).natAbs).length c4]) (y) := ⟨_, rfl, kys⟩
              replace By := By.grown hg10 (by omega)
              replace kzs := off kzs BA8 no_ints2 hg10
              replace kz : IsZ w10 (.agg #[.bool (ngB z), .slice A5 (digs 4294967296 (z).natAbs).length c5]) (z) := ⟨_, rfl, kzs⟩
              replace Bz := Bz.grown hg10 (by omega)
              replace kqs := off kqs BA8 no_ints2 hg10
              replace kq : IsZ w10 (.agg #[.bool (ngB (0 : Int)), .slice A7 (digs 4294967296 ((0 : Int)).natAbs).length c7]) ((0 : Int)) := ⟨_, rfl, kqs⟩
              replace Bq := Bq.grown hg10 (by omega)
              replace bb := bb.trans ((Below.refl _ _).grown hg10 bb.size (fun g hg => by injection hg with hg; omega))
              have hsz10 := bb.size
              have Br : Blk w10 (g8) _ _ := BN10
              have krs := q5
              have kr : IsZ w10 (.agg #[.bool (ngB (0 : Int)), .slice A8 (digs 4294967296 ((0 : Int)).natAbs).length c8]) ((0 : Int)) := ⟨_, rfl, krs⟩
              refine ops_assign (i := 11) (.int .i64 3) rfl rfl rfl rfl rfl fun b hbf => ?_
              simp only [Act.put, List.setIfInBounds_toArray, List.set_cons_zero, List.set_cons_succ] at hbf
              subst hbf
              refine ops_done ?_
              have hlen0 : (digs 4294967296 y.natAbs).length = 0 := by rw [hy0, Int.natAbs_zero, digs_zero]; rfl
              clear hy0
              obtain ⟨xb0, xb1, _, _⟩ := Blk.two By
              go_wp2
              go_ret
              exact ⟨rfl, bb⟩
          · obtain ⟨q, hq⟩ : ∃ q, q = x.fdiv y := ⟨_, rfl⟩
            obtain ⟨r, hr⟩ : ∃ r, r = x.fmod y := ⟨_, rfl⟩
            have lq : lenZ q ≤ 20 := by rw [hq]; exact lenZ_fdiv_le hy0 lx
            have lr : lenZ r ≤ 20 := by rw [hr]; exact lenZ_fmod_le hy0 ly
            have HE : Hid (q * y + r = x) := by show _ = _; rw [hq, hr, Int.mul_comm]; exact Int.mul_fdiv_add_fmod x y
            have HL : Hid (-1 = ordz ((r).natAbs : Int) ((y).natAbs : Int)) := by show _ = _; rw [ordz_lt]; have := (fdiv_abs (x := x) hy0).2; rw [← hr] at this; omega
            have HSg : Hid (r ≠ 0 → ordz r 0 = ordz y 0) := by show r ≠ 0 → _; intro h; rw [hr] at h ⊢; exact fmod_sign hy0 h
            have HQ := Lib.hid hq
            have HR := Lib.hid hr
            clear hq hr
            go_upto_region 8 with (fail)
            have lt7_3 := Blk.lt Bx
            have lt7_4 := Blk.lt By
            have lt7_5 := Blk.lt Bz
            refine flowp 9 [Pd.eq (.agg #[.bool (ngB x), .slice A3 (digs 4294967296 (x).natAbs).length c3]), Pd.eq (.agg #[.bool (ngB y), .slice A4 (digs 4294967296 (y).natAbs).length c4]), pzz (q) (r) 0 w7.heap.size, pzz (q) (r) 0 w7.heap.size, pz (q) w7.heap.size, pz (r) w7.heap.size, Pd.eq (.int .i64 0), pn 25 #[.bool false, .slice none 0 0] w7.heap.size, pn 25 #[.bool false, .slice none 0 0] w7.heap.size] (by kernel_rfl) ?ob6 ?done6
            case ob6 =>
              refine And.intro (ob_load rfl (wt_none rfl) (ev_far rfl rfl) (fun w2 hb => run_loadAll Tryd.underlying25 rfl (by kernel_rfl) (Bx.below hb)) (fun _ _ => rfl)) ?_
              refine And.intro (ob_load rfl (wt_none rfl) (ev_far rfl rfl) (fun w2 hb => run_loadAll Tryd.underlying25 rfl (by kernel_rfl) (By.below hb)) (fun _ _ => rfl)) ?_
              refine And.intro (ob_call2 rfl Tryd.func33 (by kernel_rfl) (wt_none rfl) (ev_dep (j := 0) (by kernel_rfl) rfl rfl) (ev_dep (j := 1) (by kernel_rfl) rfl rfl) (fun w2 u0 u1 hb h0 h1 => by obtain rfl := h0; obtain rfl := h1; exact (HQ.out ▸ HR.out ▸ zfloor_any _ _ _ _ _ (kx.below hb) (ky.below hb) (Nat.le_trans lx (by decide)) (Nat.le_trans ly (by decide)) hy0).mono fun e w3 h => RetZZE.pd h hb.size)) ?_
              refine And.intro (ob_move rfl (wt_none rfl) (ev_dep (j := 2) (by kernel_rfl) rfl rfl) (fun _ _ h => h)) ?_
              refine And.intro (ob_extract rfl (wt_none rfl) (ev_dep (j := 3) (by kernel_rfl) rfl rfl) (fun w2 u hu => by obtain ⟨v, u, rfl, q1, q2, q3, q4⟩ := hu; exact ⟨v, rfl, q1, q3⟩)) ?_
              refine And.intro (ob_extract rfl (wt_none rfl) (ev_dep (j := 3) (by kernel_rfl) rfl rfl) (fun w2 u hu => by obtain ⟨v, u, rfl, q1, q2, q3, q4⟩ := hu; exact ⟨u, rfl, q2, q4⟩)) ?_
              refine And.intro (ob_extract rfl (wt_none rfl) (ev_dep (j := 3) (by kernel_rfl) rfl rfl) (fun w2 u hu => by obtain ⟨v, u, rfl, q1, q2, q3, q4⟩ := hu; exact ⟨_, rfl, rfl⟩)) ?_
              refine And.intro (ob_alloc (z := .agg #[.bool false, .slice none 0 0]) rfl rfl (fun _ => by kernel_rfl) (fun _ _ hB h => ⟨_, rfl, hB, h⟩)) ?_
              refine And.intro (ob_alloc (z := .agg #[.bool false, .slice none 0 0]) rfl rfl (fun _ => by kernel_rfl) (fun _ _ hB h => ⟨_, rfl, hB, h⟩)) ?_
              trivial
            case done6 =>
              refine fun w8 hb8 v0 h0 v1 h1 v2 h2 v3 h3 v4 h4 v5 h5 v6 h6 v7 h7 d7 v8 h8 d8 b hbf => ?_
              obtain rfl := h0; obtain rfl := h1; obtain rfl := h6
              clear h2
              clear h3
              obtain ⟨q4, f4⟩ := h4
              obtain ⟨q5, f5⟩ := h5
              obtain ⟨g7, rfl, hg7, B7⟩ := h7
              obtain ⟨g8, rfl, hg8, B8⟩ := h8
              simp only [Act.put, List.setIfInBounds_toArray, List.set_cons_zero, List.set_cons_succ] at hbf
              subst hbf
              replace Bx := Bx.below hb8
              replace By := By.below hb8
              replace Bz := Bz.below hb8
              replace kxs := kxs.below hb8
              replace kys := kys.below hb8
              replace kzs := kzs.below hb8
              replace kx := kx.below hb8
              replace ky := ky.below hb8
              replace kz := kz.below hb8
              replace bb := bb.trans (hb8.mono bb.size)
              have hsz8 := bb.size
              have BA7 := B7
              have BA8 := B8
              have hne7_8 : g7 ≠ g8 := fun e => d8 (.pointer (some ⟨g7, 0, none⟩)) (by simp) (by rw [e])
              obtain ⟨u4, rfl, q4⟩ := q4
              obtain ⟨A7, c7, rfl, _⟩ := id q4
              obtain ⟨u5, rfl, q5⟩ := q5
              obtain ⟨A8, c8, rfl, _⟩ := id q5
              refine ops_store (i := 9) rfl rfl rfl rfl rfl rfl (cells := [.bool (ngB q), .slice A7 (digs 4294967296 (q).natAbs).length c7]) rfl BA7 rfl (by kernel_rfl) (one2 rfl rfl) fun w9 hg9 BN9 => ?_
              replace q5 := off q5 BA7 no_ints2 hg9
              replace q4 := off q4 BA7 no_ints2 hg9
              replace kxs := off kxs BA7 no_ints2 hg9
              replace kx : IsZ w9 (.agg #[.bool (ngB x), .slice A3 (digs 4294967296 (x).natAbs).length c3]) (x) := ⟨_, rfl, kxs⟩
              replace Bx := Bx.grown hg9 (by omega)
              replace kys := off kys BA7 no_ints2 hg9
              replace ky : IsZ w9 (.agg #[.bool (ngB y), .slice A4 (digs 4294967296 (y).natAbs).length c4]) (y) := ⟨_, rfl, kys⟩
              replace By := By.grown hg9 (by omega)
              replace kzs := off kzs BA7 no_ints2 hg9
              replace kz : IsZ w9 (.agg #[.bool (ngB z), .slice A5 (digs 4294967296 (z).natAbs).length c5]) (z) := ⟨_, rfl, kzs⟩
              replace Bz := Bz.grown hg9 (by omega)
              replace BA8 := BA8.grown hg9 (by omega)
              replace bb := bb.trans ((Below.refl _ _).grown hg9 bb.size (fun g hg => by injection hg with hg; omega))
              have hsz9 := bb.size
              have Bq : Blk w9 (g7) _ _ := BN9
              have kqs := q4
              have kq : IsZ w9 (.agg #[.bool (ngB q), .slice A7 (digs 4294967296 (q).natAbs).length c7]) (q) := ⟨_, rfl, kqs⟩
              refine ops_store (i := 10) rfl rfl rfl rfl rfl rfl (cells := [.bool (ngB r), .slice A8 (digs 4294967296 (r).natAbs).length c8]) rfl BA8 rfl (by kernel_rfl) (one2 rfl rfl) fun w10 hg10 BN10 => ?_
              replace q5 := off q5 BA8 no_ints2 hg10
              replace kxs := off kxs BA8 no_ints2 hg10
              replace kx : IsZ w10 (.agg #[.bool (ngB x), .slice A3 (digs 4294967296 (x).natAbs).length c3]) (x) := ⟨_, rfl, kxs⟩
              replace Bx := Bx.grown hg10 (by omega)
              replace kys := off kys BA8 no_ints2 hg10
              replace ky : IsZ w10 (.agg #[.bool (ngB y), .slice A4 (digs 4294967296 (y).natAbs).length c4]) (y) := ⟨_, rfl, kys⟩
              replace By := By.grown hg10 (by omega)
              replace kzs := off kzs BA8 no_ints2 hg10
              replace kz : IsZ w10 (.agg #[.bool (ngB z), .slice A5 (digs 4294967296 (z).natAbs).length c5]) (z) := ⟨_, rfl, kzs⟩
              replace Bz := Bz.grown hg10 (by omega)
              replace kqs := off kqs BA8 no_ints2 hg10
              replace kq : IsZ w10 (.agg #[.bool (ngB q), .slice A7 (digs 4294967296 (q).natAbs).length c7]) (q) := ⟨_, rfl, kqs⟩
              replace Bq := Bq.grown hg10 (by omega)
              replace bb := bb.trans ((Below.refl _ _).grown hg10 bb.size (fun g hg => by injection hg with hg; omega))
              have hsz10 := bb.size
              have Br : Blk w10 (g8) _ _ := BN10
              have krs := q5
              have kr : IsZ w10 (.agg #[.bool (ngB r), .slice A8 (digs 4294967296 (r).natAbs).length c8]) (r) := ⟨_, rfl, krs⟩
              refine ops_assign (i := 11) (.int .i64 0) rfl rfl rfl rfl rfl fun b hbf => ?_
              simp only [Act.put, List.setIfInBounds_toArray, List.set_cons_zero, List.set_cons_succ] at hbf
              subst hbf
              refine ops_done ?_
              by_cases hr0 : r = 0
              · go_upto_region 11 with (fail)
                refine flow 30 [Pd.eq (.agg #[.bool (ngB q), .slice A7 (digs 4294967296 (q).natAbs).length c7]), Pd.eq (.agg #[.bool (ngB y), .slice A4 (digs 4294967296 (y).natAbs).length c4]), pz ((q * y)) w10.heap.size, Pd.eq (.agg #[.bool (ngB r), .slice A8 (digs 4294967296 (r).natAbs).length c8]), pz (((q * y) + r)) w10.heap.size, Pd.eq (.agg #[.bool (ngB x), .slice A3 (digs 4294967296 (x).natAbs).length c3]), Pd.eq (.bool true), Pd.eq (.bool true), Pd.eq (.agg #[.bool (ngB r), .slice A8 (digs 4294967296 (r).natAbs).length c8]), Pd.eq (.int .i64 0), Pd.eq (.bool true), Pd.eq (.bool true), Pd.any, Pd.any, Pd.any, Pd.any, Pd.any, Pd.eq (.bool true), Pd.eq (.bool true), Pd.eq (.bool true), Pd.eq (.pointer (some ⟨g8, 1, none⟩)), Pd.eq (.slice A8 (digs 4294967296 (r).natAbs).length c8), pz (((r).natAbs : Int)) w10.heap.size, Pd.eq (.pointer (some ⟨w.heap.size + 1, 1, none⟩)), Pd.eq (.slice A4 (digs 4294967296 (y).natAbs).length c4), pz (((y).natAbs : Int)) w10.heap.size, Pd.eq (.int .i64 (-1)), Pd.eq (.bool true), Pd.eq (.bool true), Pd.eq (.bool true)] (by kernel_rfl) (by kernel_rfl) ?ob7 ?done7
                case ob7 =>
                  refine And.intro (ob_load rfl (wt_none rfl) (ev_far rfl rfl) (fun w2 hb => run_loadAll Tryd.underlying25 rfl (by kernel_rfl) (Bq.drew.below hb)) (fun _ _ => rfl)) ?_
                  refine And.intro (ob_load rfl (wt_none rfl) (ev_far rfl rfl) (fun w2 hb => run_loadAll Tryd.underlying25 rfl (by kernel_rfl) (By.drew.below hb)) (fun _ _ => rfl)) ?_
                  refine And.intro (ob_call2 rfl Tryd.func16 (by kernel_rfl) (wt_none rfl) (ev_dep (j := 0) (by kernel_rfl) rfl rfl) (ev_dep (j := 1) (by kernel_rfl) rfl rfl) (fun w2 u0 u1 hb h0 h1 => by obtain rfl := h0; obtain rfl := h1; exact (zmul_any _ _ _ _ _ _ (kq.drew.below hb) (ky.drew.below hb) (Nat.le_trans lq (by decide)) (Nat.le_trans ly (by decide)) rfl).mono fun e w3 h => RetZ.pd h hb.size)) ?_
                  refine And.intro (ob_load rfl (wt_none rfl) (ev_far rfl rfl) (fun w2 hb => run_loadAll Tryd.underlying25 rfl (by kernel_rfl) (Br.drew.below hb)) (fun _ _ => rfl)) ?_
                  refine And.intro (ob_call2 rfl Tryd.func11 (by kernel_rfl) (wt_none rfl) (ev_dep (j := 2) (by kernel_rfl) rfl rfl) (ev_dep (j := 3) (by kernel_rfl) rfl rfl) (fun w2 u0 u1 hb h0 h1 => by obtain rfl := h1; exact (zadd_any _ _ _ _ _ h0.1 (kr.drew.below hb) (Nat.le_trans (lenZ_mul_le lq ly) (by decide)) (Nat.le_trans lr (by decide))).mono fun e w3 h => RetZ.pd h hb.size)) ?_
                  refine And.intro (ob_load rfl (wt_none rfl) (ev_far rfl rfl) (fun w2 hb => run_loadAll Tryd.underlying25 rfl (by kernel_rfl) (Bx.drew.below hb)) (fun _ _ => rfl)) ?_
                  refine And.intro (ob_call2 rfl Tryd.func10 (by kernel_rfl) (wt_none rfl) (ev_dep (j := 4) (by kernel_rfl) rfl rfl) (ev_dep (j := 5) (by kernel_rfl) rfl rfl) (fun w2 u0 u1 hb h0 h1 => by obtain rfl := h1; exact (zsame_eq _ _ (((q * y) + r)) (x) _ h0.1 (kx.drew.below hb) HE.out).mono fun e w3 h => RetV.pd h)) ?_
                  refine And.intro (ob_move rfl (wt_none rfl) (ev_dep (j := 6) (by kernel_rfl) rfl rfl) (fun _ _ h => h)) ?_
                  refine And.intro (ob_load rfl (wt_dep (c := true) (b := true) (g := 7) rfl (by kernel_rfl) rfl rfl rfl (by exact fun _ _ h => h)) (ev_far rfl rfl) (fun w2 hb => run_loadAll Tryd.underlying25 rfl (by kernel_rfl) (Br.drew.below hb)) (fun _ _ => rfl)) ?_
                  refine And.intro (ob_call1 rfl Tryd.func22 (by kernel_rfl) (wt_dep (c := true) (b := true) (g := 7) rfl (by kernel_rfl) rfl rfl rfl (by exact fun _ _ h => h)) (ev_dep (j := 8) (by kernel_rfl) rfl rfl) (fun w2 u0 hb h0 => by obtain rfl := h0; exact (sign_any _ _ _ _ (kr.drew.below hb) (by rw [hr0]; rfl)).mono fun e w3 h => RetV.pd h)) ?_
                  refine And.intro (ob_bin rfl (wt_dep (c := true) (b := true) (g := 7) rfl (by kernel_rfl) rfl rfl rfl (by exact fun _ _ h => h)) (ev_dep (j := 9) (by kernel_rfl) rfl rfl) (ev_const _) (fun _ _ _ hx hy => ⟨.bool ((0 : Int) == 0), by rw [hx, hy]; exact bin_eql_int _ _ _ _ _, congrArg Value.bool (by decide)⟩)) ?_
                  refine And.intro (ob_move rfl (wt_dep (c := true) (b := true) (g := 7) rfl (by kernel_rfl) rfl rfl rfl (by exact fun _ _ h => h)) (ev_dep (j := 10) (by kernel_rfl) rfl rfl) (fun _ _ h => h)) ?_
                  refine And.intro (ob_not (wt_dep (c := true) (b := false) (g := 11) rfl (by kernel_rfl) rfl rfl rfl (by exact fun _ _ h => h)) (fun _ => trivial) rfl) ?_
                  refine And.intro (ob_not (wt_dep (c := true) (b := false) (g := 11) rfl (by kernel_rfl) rfl rfl rfl (by exact fun _ _ h => h)) (fun _ => trivial) rfl) ?_
                  refine And.intro (ob_not (wt_dep (c := true) (b := false) (g := 11) rfl (by kernel_rfl) rfl rfl rfl (by exact fun _ _ h => h)) (fun _ => trivial) rfl) ?_
                  refine And.intro (ob_not (wt_dep (c := true) (b := false) (g := 11) rfl (by kernel_rfl) rfl rfl rfl (by exact fun _ _ h => h)) (fun _ => trivial) rfl) ?_
                  refine And.intro (ob_not (wt_dep (c := true) (b := false) (g := 11) rfl (by kernel_rfl) rfl rfl rfl (by exact fun _ _ h => h)) (fun _ => trivial) rfl) ?_
                  refine And.intro (ob_pick (b := true) rfl (wt_dep (c := true) (b := true) (g := 7) rfl (by kernel_rfl) rfl rfl rfl (by exact fun _ _ h => h)) (ev_dep (j := 11) (by kernel_rfl) rfl rfl) (ev_const _) (fun _ _ h => h)) ?_
                  refine And.intro (ob_pick (b := true) rfl (wt_none rfl) (ev_dep (j := 7) (by kernel_rfl) rfl rfl) (ev_dep (j := 17) (by kernel_rfl) rfl rfl) (fun _ _ h => h)) ?_
                  refine And.intro (ob_move rfl (wt_none rfl) (ev_dep (j := 18) (by kernel_rfl) rfl rfl) (fun _ _ h => h)) ?_
                  refine And.intro (ob_fieldAddr rfl (wt_dep (c := true) (b := true) (g := 19) rfl (by kernel_rfl) rfl rfl rfl (by exact fun _ _ h => h)) (ev_far rfl rfl) (fun _ => by kernel_rfl) (fun _ => rfl)) ?_
                  refine And.intro (ob_load rfl (wt_dep (c := true) (b := true) (g := 19) rfl (by kernel_rfl) rfl rfl rfl (by exact fun _ _ h => h)) (ev_dep (j := 20) (by kernel_rfl) rfl rfl) (fun w2 hb => run_load1 Tryd.underlying23 rfl ((Br.drew.below hb).cell 1)) (fun _ _ => rfl)) ?_
                  refine And.intro (ob_call2 rfl Tryd.func31 (by kernel_rfl) (wt_dep (c := true) (b := true) (g := 19) rfl (by kernel_rfl) rfl rfl rfl (by exact fun _ _ h => h)) (ev_const _) (ev_dep (j := 21) (by kernel_rfl) rfl rfl) (fun w2 u0 u1 hb h0 h1 => by obtain rfl := h0; obtain rfl := h1; exact (made_any _ _ _ ((r).natAbs : Int) _ (krs.drew.below hb) (Nat.le_trans lr (by decide)) (sg_false _).symm).mono fun e w3 h => RetZ.pd h hb.size)) ?_
                  refine And.intro (ob_fieldAddr rfl (wt_dep (c := true) (b := true) (g := 19) rfl (by kernel_rfl) rfl rfl rfl (by exact fun _ _ h => h)) (ev_far rfl rfl) (fun _ => by kernel_rfl) (fun _ => rfl)) ?_
                  refine And.intro (ob_load rfl (wt_dep (c := true) (b := true) (g := 19) rfl (by kernel_rfl) rfl rfl rfl (by exact fun _ _ h => h)) (ev_dep (j := 23) (by kernel_rfl) rfl rfl) (fun w2 hb => run_load1 Tryd.underlying23 rfl ((By.drew.below hb).cell 1)) (fun _ _ => rfl)) ?_
                  refine And.intro (ob_call2 rfl Tryd.func31 (by kernel_rfl) (wt_dep (c := true) (b := true) (g := 19) rfl (by kernel_rfl) rfl rfl rfl (by exact fun _ _ h => h)) (ev_const _) (ev_dep (j := 24) (by kernel_rfl) rfl rfl) (fun w2 u0 u1 hb h0 h1 => by obtain rfl := h0; obtain rfl := h1; exact (made_any _ _ _ ((y).natAbs : Int) _ (kys.drew.below hb) (Nat.le_trans ly (by decide)) (sg_false _).symm).mono fun e w3 h => RetZ.pd h hb.size)) ?_
                  refine And.intro (ob_call2 rfl Tryd.func20 (by kernel_rfl) (wt_dep (c := true) (b := true) (g := 19) rfl (by kernel_rfl) rfl rfl rfl (by exact fun _ _ h => h)) (ev_dep (j := 22) (by kernel_rfl) rfl rfl) (ev_dep (j := 25) (by kernel_rfl) rfl rfl) (fun w2 u0 u1 hb h0 h1 => (zcmp_any _ _ _ _ _ _ h0.1 h1.1 HL.out).mono fun e w3 h => RetV.pd h)) ?_
                  refine And.intro (ob_bin rfl (wt_dep (c := true) (b := true) (g := 19) rfl (by kernel_rfl) rfl rfl rfl (by exact fun _ _ h => h)) (ev_dep (j := 26) (by kernel_rfl) rfl rfl) (ev_const _) (fun _ _ _ hx hy => ⟨.bool (decide ((-1 : Int) < 0)), by rw [hx, hy]; exact bin_lss_int _ _ _ _ _, congrArg Value.bool (by decide)⟩)) ?_
                  refine And.intro (ob_pick (b := true) rfl (wt_none rfl) (ev_dep (j := 19) (by kernel_rfl) rfl rfl) (ev_dep (j := 27) (by kernel_rfl) rfl rfl) (fun _ _ h => h)) ?_
                  refine And.intro (ob_assign rfl (wt_none rfl) (ev_dep (j := 28) (by kernel_rfl) rfl rfl) (fun _ _ h => h)) ?_
                  trivial
                case done7 =>
                  refine fun w11 hb11 v0 h0 v1 h1 v2 h2 v3 h3 v4 h4 v5 h5 v6 h6 v7 h7 v8 h8 v9 h9 v10 h10 v11 h11 v12 h12 v13 h13 v14 h14 v15 h15 v16 h16 v17 h17 v18 h18 v19 h19 v20 h20 v21 h21 v22 h22 v23 h23 v24 h24 v25 h25 v26 h26 v27 h27 v28 h28 v29 h29 b hbf => ?_
                  obtain rfl := h0; obtain rfl := h1; obtain rfl := h3; obtain rfl := h5; obtain rfl := h6; obtain rfl := h7; obtain rfl := h8; obtain rfl := h9; obtain rfl := h10; obtain rfl := h11; obtain rfl := h17; obtain rfl := h18; obtain rfl := h19; obtain rfl := h20; obtain rfl := h21; obtain rfl := h23; obtain rfl := h24; obtain rfl := h26; obtain rfl := h27; obtain rfl := h28; obtain rfl := h29
                  obtain ⟨q2, f2⟩ := h2
                  obtain ⟨q4, f4⟩ := h4
                  clear h12
                  clear h13
                  clear h14
                  clear h15
                  clear h16
                  obtain ⟨q22, f22⟩ := h22
                  obtain ⟨q25, f25⟩ := h25
                  simp only [Act.put, List.setIfInBounds_toArray, List.set_cons_zero, List.set_cons_succ] at hbf
                  subst hbf
                  replace Bx := Bx.below hb11
                  replace By := By.below hb11
                  replace Bz := Bz.below hb11
                  replace Bq := Bq.below hb11
                  replace Br := Br.below hb11
                  replace kxs := kxs.below hb11
                  replace kys := kys.below hb11
                  replace kzs := kzs.below hb11
                  replace kqs := kqs.below hb11
                  replace krs := krs.below hb11
                  replace kx := kx.below hb11
                  replace ky := ky.below hb11
                  replace kz := kz.below hb11
                  replace kq := kq.below hb11
                  replace kr := kr.below hb11
                  replace bb := bb.trans (hb11.mono bb.size)
                  have hsz11 := bb.size
                  refine any_done (by kernel_rfl) ?_
                  go_wp2
                  go_ret
                  exact ⟨rfl, bb⟩
              · obtain ⟨S, hS⟩ : ∃ S, S = ordz y 0 := ⟨_, rfl⟩
                have HSy := Lib.hid hS
                have HSr : Hid (S = ordz r 0) := by show _ = _; rw [hS]; exact (HSg.out hr0).symm
                have hS0 : (S == 0) = false := by rw [HSr.out, beq_eq_false_iff_ne]; unfold ordz; (repeat' split) <;> omega
                have HS0 := Lib.hid hS0
                clear hS hS0
                go_upto_region 11 with (fail)
                refine flow 30 [Pd.eq (.agg #[.bool (ngB q), .slice A7 (digs 4294967296 (q).natAbs).length c7]), Pd.eq (.agg #[.bool (ngB y), .slice A4 (digs 4294967296 (y).natAbs).length c4]), pz ((q * y)) w10.heap.size, Pd.eq (.agg #[.bool (ngB r), .slice A8 (digs 4294967296 (r).natAbs).length c8]), pz (((q * y) + r)) w10.heap.size, Pd.eq (.agg #[.bool (ngB x), .slice A3 (digs 4294967296 (x).natAbs).length c3]), Pd.eq (.bool true), Pd.eq (.bool true), Pd.eq (.agg #[.bool (ngB r), .slice A8 (digs 4294967296 (r).natAbs).length c8]), Pd.eq (.int .i64 S), Pd.eq (.bool false), Pd.eq (.bool false), Pd.eq (.agg #[.bool (ngB r), .slice A8 (digs 4294967296 (r).natAbs).length c8]), Pd.eq (.int .i64 S), Pd.eq (.agg #[.bool (ngB y), .slice A4 (digs 4294967296 (y).natAbs).length c4]), Pd.eq (.int .i64 S), Pd.eq (.bool true), Pd.eq (.bool true), Pd.eq (.bool true), Pd.eq (.bool true), Pd.eq (.pointer (some ⟨g8, 1, none⟩)), Pd.eq (.slice A8 (digs 4294967296 (r).natAbs).length c8), pz (((r).natAbs : Int)) w10.heap.size, Pd.eq (.pointer (some ⟨w.heap.size + 1, 1, none⟩)), Pd.eq (.slice A4 (digs 4294967296 (y).natAbs).length c4), pz (((y).natAbs : Int)) w10.heap.size, Pd.eq (.int .i64 (-1)), Pd.eq (.bool true), Pd.eq (.bool true), Pd.eq (.bool true)] (by kernel_rfl) (by kernel_rfl) ?ob8 ?done8
                case ob8 =>
                  refine And.intro (ob_load rfl (wt_none rfl) (ev_far rfl rfl) (fun w2 hb => run_loadAll Tryd.underlying25 rfl (by kernel_rfl) (Bq.drew.below hb)) (fun _ _ => rfl)) ?_
                  refine And.intro (ob_load rfl (wt_none rfl) (ev_far rfl rfl) (fun w2 hb => run_loadAll Tryd.underlying25 rfl (by kernel_rfl) (By.drew.below hb)) (fun _ _ => rfl)) ?_
                  refine And.intro (ob_call2 rfl Tryd.func16 (by kernel_rfl) (wt_none rfl) (ev_dep (j := 0) (by kernel_rfl) rfl rfl) (ev_dep (j := 1) (by kernel_rfl) rfl rfl) (fun w2 u0 u1 hb h0 h1 => by obtain rfl := h0; obtain rfl := h1; exact (zmul_any _ _ _ _ _ _ (kq.drew.below hb) (ky.drew.below hb) (Nat.le_trans lq (by decide)) (Nat.le_trans ly (by decide)) rfl).mono fun e w3 h => RetZ.pd h hb.size)) ?_
                  refine And.intro (ob_load rfl (wt_none rfl) (ev_far rfl rfl) (fun w2 hb => run_loadAll Tryd.underlying25 rfl (by kernel_rfl) (Br.drew.below hb)) (fun _ _ => rfl)) ?_
                  refine And.intro (ob_call2 rfl Tryd.func11 (by kernel_rfl) (wt_none rfl) (ev_dep (j := 2) (by kernel_rfl) rfl rfl) (ev_dep (j := 3) (by kernel_rfl) rfl rfl) (fun w2 u0 u1 hb h0 h1 => by obtain rfl := h1; exact (zadd_any _ _ _ _ _ h0.1 (kr.drew.below hb) (Nat.le_trans (lenZ_mul_le lq ly) (by decide)) (Nat.le_trans lr (by decide))).mono fun e w3 h => RetZ.pd h hb.size)) ?_
                  refine And.intro (ob_load rfl (wt_none rfl) (ev_far rfl rfl) (fun w2 hb => run_loadAll Tryd.underlying25 rfl (by kernel_rfl) (Bx.drew.below hb)) (fun _ _ => rfl)) ?_
                  refine And.intro (ob_call2 rfl Tryd.func10 (by kernel_rfl) (wt_none rfl) (ev_dep (j := 4) (by kernel_rfl) rfl rfl) (ev_dep (j := 5) (by kernel_rfl) rfl rfl) (fun w2 u0 u1 hb h0 h1 => by obtain rfl := h1; exact (zsame_eq _ _ (((q * y) + r)) (x) _ h0.1 (kx.drew.below hb) HE.out).mono fun e w3 h => RetV.pd h)) ?_
                  refine And.intro (ob_move rfl (wt_none rfl) (ev_dep (j := 6) (by kernel_rfl) rfl rfl) (fun _ _ h => h)) ?_
                  refine And.intro (ob_load rfl (wt_dep (c := true) (b := true) (g := 7) rfl (by kernel_rfl) rfl rfl rfl (by exact fun _ _ h => h)) (ev_far rfl rfl) (fun w2 hb => run_loadAll Tryd.underlying25 rfl (by kernel_rfl) (Br.drew.below hb)) (fun _ _ => rfl)) ?_
                  refine And.intro (ob_call1 rfl Tryd.func22 (by kernel_rfl) (wt_dep (c := true) (b := true) (g := 7) rfl (by kernel_rfl) rfl rfl rfl (by exact fun _ _ h => h)) (ev_dep (j := 8) (by kernel_rfl) rfl rfl) (fun w2 u0 hb h0 => by obtain rfl := h0; exact (sign_any _ _ _ _ (kr.drew.below hb) HSr.out).mono fun e w3 h => RetV.pd h)) ?_
                  refine And.intro (ob_bin rfl (wt_dep (c := true) (b := true) (g := 7) rfl (by kernel_rfl) rfl rfl rfl (by exact fun _ _ h => h)) (ev_dep (j := 9) (by kernel_rfl) rfl rfl) (ev_const _) (fun _ _ _ hx hy => ⟨.bool (S == 0), by rw [hx, hy]; exact bin_eql_int _ _ _ _ _, congrArg Value.bool HS0.out⟩)) ?_
                  refine And.intro (ob_move rfl (wt_dep (c := true) (b := true) (g := 7) rfl (by kernel_rfl) rfl rfl rfl (by exact fun _ _ h => h)) (ev_dep (j := 10) (by kernel_rfl) rfl rfl) (fun _ _ h => h)) ?_
                  refine And.intro (ob_load rfl (wt_dep (c := false) (b := false) (g := 11) rfl (by kernel_rfl) rfl rfl rfl (by exact fun _ _ h => h)) (ev_far rfl rfl) (fun w2 hb => run_loadAll Tryd.underlying25 rfl (by kernel_rfl) (Br.drew.below hb)) (fun _ _ => rfl)) ?_
                  refine And.intro (ob_call1 rfl Tryd.func22 (by kernel_rfl) (wt_dep (c := false) (b := false) (g := 11) rfl (by kernel_rfl) rfl rfl rfl (by exact fun _ _ h => h)) (ev_dep (j := 12) (by kernel_rfl) rfl rfl) (fun w2 u0 hb h0 => by obtain rfl := h0; exact (sign_any _ _ _ _ (kr.drew.below hb) HSr.out).mono fun e w3 h => RetV.pd h)) ?_
                  refine And.intro (ob_load rfl (wt_dep (c := false) (b := false) (g := 11) rfl (by kernel_rfl) rfl rfl rfl (by exact fun _ _ h => h)) (ev_far rfl rfl) (fun w2 hb => run_loadAll Tryd.underlying25 rfl (by kernel_rfl) (By.drew.below hb)) (fun _ _ => rfl)) ?_
                  refine And.intro (ob_call1 rfl Tryd.func22 (by kernel_rfl) (wt_dep (c := false) (b := false) (g := 11) rfl (by kernel_rfl) rfl rfl rfl (by exact fun _ _ h => h)) (ev_dep (j := 14) (by kernel_rfl) rfl rfl) (fun w2 u0 hb h0 => by obtain rfl := h0; exact (sign_any _ _ _ _ (ky.drew.below hb) HSy.out).mono fun e w3 h => RetV.pd h)) ?_
                  refine And.intro (ob_bin rfl (wt_dep (c := false) (b := false) (g := 11) rfl (by kernel_rfl) rfl rfl rfl (by exact fun _ _ h => h)) (ev_dep (j := 13) (by kernel_rfl) rfl rfl) (ev_dep (j := 15) (by kernel_rfl) rfl rfl) (fun _ _ _ hx hy => ⟨.bool (S == S), by rw [hx, hy]; exact bin_eql_int _ _ _ _ _, congrArg Value.bool (beq_self_eq_true _)⟩)) ?_
                  refine And.intro (ob_pick (b := false) rfl (wt_dep (c := true) (b := true) (g := 7) rfl (by kernel_rfl) rfl rfl rfl (by exact fun _ _ h => h)) (ev_dep (j := 11) (by kernel_rfl) rfl rfl) (ev_dep (j := 16) (by kernel_rfl) rfl rfl) (fun _ _ h => h)) ?_
                  refine And.intro (ob_pick (b := true) rfl (wt_none rfl) (ev_dep (j := 7) (by kernel_rfl) rfl rfl) (ev_dep (j := 17) (by kernel_rfl) rfl rfl) (fun _ _ h => h)) ?_
                  refine And.intro (ob_move rfl (wt_none rfl) (ev_dep (j := 18) (by kernel_rfl) rfl rfl) (fun _ _ h => h)) ?_
                  refine And.intro (ob_fieldAddr rfl (wt_dep (c := true) (b := true) (g := 19) rfl (by kernel_rfl) rfl rfl rfl (by exact fun _ _ h => h)) (ev_far rfl rfl) (fun _ => by kernel_rfl) (fun _ => rfl)) ?_
                  refine And.intro (ob_load rfl (wt_dep (c := true) (b := true) (g := 19) rfl (by kernel_rfl) rfl rfl rfl (by exact fun _ _ h => h)) (ev_dep (j := 20) (by kernel_rfl) rfl rfl) (fun w2 hb => run_load1 Tryd.underlying23 rfl ((Br.drew.below hb).cell 1)) (fun _ _ => rfl)) ?_
                  refine And.intro (ob_call2 rfl Tryd.func31 (by kernel_rfl) (wt_dep (c := true) (b := true) (g := 19) rfl (by kernel_rfl) rfl rfl rfl (by exact fun _ _ h => h)) (ev_const _) (ev_dep (j := 21) (by kernel_rfl) rfl rfl) (fun w2 u0 u1 hb h0 h1 => by obtain rfl := h0; obtain rfl := h1; exact (made_any _ _ _ ((r).natAbs : Int) _ (krs.drew.below hb) (Nat.le_trans lr (by decide)) (sg_false _).symm).mono fun e w3 h => RetZ.pd h hb.size)) ?_
                  refine And.intro (ob_fieldAddr rfl (wt_dep (c := true) (b := true) (g := 19) rfl (by kernel_rfl) rfl rfl rfl (by exact fun _ _ h => h)) (ev_far rfl rfl) (fun _ => by kernel_rfl) (fun _ => rfl)) ?_
                  refine And.intro (ob_load rfl (wt_dep (c := true) (b := true) (g := 19) rfl (by kernel_rfl) rfl rfl rfl (by exact fun _ _ h => h)) (ev_dep (j := 23) (by kernel_rfl) rfl rfl) (fun w2 hb => run_load1 Tryd.underlying23 rfl ((By.drew.below hb).cell 1)) (fun _ _ => rfl)) ?_
                  refine And.intro (ob_call2 rfl Tryd.func31 (by kernel_rfl) (wt_dep (c := true) (b := true) (g := 19) rfl (by kernel_rfl) rfl rfl rfl (by exact fun _ _ h => h)) (ev_const _) (ev_dep (j := 24) (by kernel_rfl) rfl rfl) (fun w2 u0 u1 hb h0 h1 => by obtain rfl := h0; obtain rfl := h1; exact (made_any _ _ _ ((y).natAbs : Int) _ (kys.drew.below hb) (Nat.le_trans ly (by decide)) (sg_false _).symm).mono fun e w3 h => RetZ.pd h hb.size)) ?_
                  refine And.intro (ob_call2 rfl Tryd.func20 (by kernel_rfl) (wt_dep (c := true) (b := true) (g := 19) rfl (by kernel_rfl) rfl rfl rfl (by exact fun _ _ h => h)) (ev_dep (j := 22) (by kernel_rfl) rfl rfl) (ev_dep (j := 25) (by kernel_rfl) rfl rfl) (fun w2 u0 u1 hb h0 h1 => (zcmp_any _ _ _ _ _ _ h0.1 h1.1 HL.out).mono fun e w3 h => RetV.pd h)) ?_
                  refine And.intro (ob_bin rfl (wt_dep (c := true) (b := true) (g := 19) rfl (by kernel_rfl) rfl rfl rfl (by exact fun _ _ h => h)) (ev_dep (j := 26) (by kernel_rfl) rfl rfl) (ev_const _) (fun _ _ _ hx hy => ⟨.bool (decide ((-1 : Int) < 0)), by rw [hx, hy]; exact bin_lss_int _ _ _ _ _, congrArg Value.bool (by decide)⟩)) ?_
                  refine And.intro (ob_pick (b := true) rfl (wt_none rfl) (ev_dep (j := 19) (by kernel_rfl) rfl rfl) (ev_dep (j := 27) (by kernel_rfl) rfl rfl) (fun _ _ h => h)) ?_
                  refine And.intro (ob_assign rfl (wt_none rfl) (ev_dep (j := 28) (by kernel_rfl) rfl rfl) (fun _ _ h => h)) ?_
                  trivial
                case done8 =>
                  refine fun w11 hb11 v0 h0 v1 h1 v2 h2 v3 h3 v4 h4 v5 h5 v6 h6 v7 h7 v8 h8 v9 h9 v10 h10 v11 h11 v12 h12 v13 h13 v14 h14 v15 h15 v16 h16 v17 h17 v18 h18 v19 h19 v20 h20 v21 h21 v22 h22 v23 h23 v24 h24 v25 h25 v26 h26 v27 h27 v28 h28 v29 h29 b hbf => ?_
                  obtain rfl := h0; obtain rfl := h1; obtain rfl := h3; obtain rfl := h5; obtain rfl := h6; obtain rfl := h7; obtain rfl := h8; obtain rfl := h9; obtain rfl := h10; obtain rfl := h11; obtain rfl := h12; obtain rfl := h13; obtain rfl := h14; obtain rfl := h15; obtain rfl := h16; obtain rfl := h17; obtain rfl := h18; obtain rfl := h19; obtain rfl := h20; obtain rfl := h21; obtain rfl := h23; obtain rfl := h24; obtain rfl := h26; obtain rfl := h27; obtain rfl := h28; obtain rfl := h29
                  obtain ⟨q2, f2⟩ := h2
                  obtain ⟨q4, f4⟩ := h4
                  obtain ⟨q22, f22⟩ := h22
                  obtain ⟨q25, f25⟩ := h25
                  simp only [Act.put, List.setIfInBounds_toArray, List.set_cons_zero, List.set_cons_succ] at hbf
                  subst hbf
                  replace Bx := Bx.below hb11
                  replace By := By.below hb11
                  replace Bz := Bz.below hb11
                  replace Bq := Bq.below hb11
                  replace Br := Br.below hb11
                  replace kxs := kxs.below hb11
                  replace kys := kys.below hb11
                  replace kzs := kzs.below hb11
                  replace kqs := kqs.below hb11
                  replace krs := krs.below hb11
                  replace kx := kx.below hb11
                  replace ky := ky.below hb11
                  replace kz := kz.below hb11
                  replace kq := kq.below hb11
                  replace kr := kr.below hb11
                  replace bb := bb.trans (hb11.mono bb.size)
                  have hsz11 := bb.size
                  refine any_done (by kernel_rfl) ?_
                  go_wp2
                  go_ret
                  exact ⟨rfl, bb⟩

set_option maxRecDepth 100000 in
theorem lifted (os : Os) (started : os.Started) (H : Type) (enc : TypeId × Value → H) :
    ReturnsInHanded {} Tryd.checked os 7 .any (fun w args => (Rows.wholeRingSpec.pre enc Tryd.prog Tryd.f7 Rows.wholeRingRow.domain false w args ∧ laidMetH Tryd.prog Rows.wholeRingRow.laid w) ∧ sizedMet enc Tryd.prog Tryd.f7 (OpenSpec.ofChange Rows.wholeRingSpec) false w args)
      (Rows.wholeRingSpec.post enc Tryd.prog Tryd.f7 false true false false) := by
  refine returnsInHanded_of_change_and (C := Tryd.checked) (X := fun w _ => laidMetH Tryd.prog Rows.wholeRingRow.laid w) (fun _ _ _ hh h => h.of_heap hh) own started (by kernel_rfl) Tryd.func7
    (ChangeSpec.witness_shaped (enc := enc) (C := Tryd.checked) (os := os) (X := fun w _ => laidMetH Tryd.prog Rows.wholeRingRow.laid w) false (World.laidAll Tryd.prog os Rows.wholeRingRow.laid) #[.agg #[.bool false, .slice none 0 0], .agg #[.bool false, .slice none 0 0], .agg #[.bool false, .slice none 0 0]] 8 (World.laidAll_os _ _ _)
      (World.shaped_of_ZipB (by kernel_rfl) (by kernel_rfl)) (by kernel_rfl) (by kernel_rfl) (by kernel_rfl)
      (by rw [MakeChecks.laidMetH_plain _ _ _ (by kernel_rfl)]; exact laidMet_laidAll _ (by kernel_rfl) (by kernel_rfl))) ?_
  intro W base args ds gs before hval0 hW hcnd _ hL _
  have hval : ∀ (j : Nat) t v, Tryd.f7.params[j]? = some t → args[j]? = some v → Value.okWide Tryd.prog W .any base t v := hval0
  have hW' := hW
  obtain ⟨p, q, hA0, hV, rfl, hfz, hnd⟩ := hW
  have hA : DataW.TrodAll enc Tryd.prog W 0 (fun _ => true) true Tryd.f7.params.toList args.toList ds p := hA0
  rw [Tryd.params7] at hA hval
  obtain ⟨v0, vs0, d0, ds0, p0, q0, hargs, rfl, rfl, t0, r0⟩ := trodAll_cons hA
  obtain ⟨v1, vs1, d1, ds1, p1, q1, rfl, rfl, rfl, t1, r1⟩ := trodAll_cons r0
  obtain ⟨v2, vs2, d2, ds2, p2, q2, rfl, rfl, rfl, t2, r2⟩ := trodAll_cons r1
  obtain ⟨rfl, rfl, rfl⟩ := trodAll_nil r2
  obtain rfl : args = #[v0, v1, v2] := by cases args; simp_all
  obtain ⟨rfl, rfl⟩ := trodVars_none hV
  obtain ⟨b0, x0, l0, rfl, hs0, hu0⟩ := arg_z Tryd.underlying25 (by kernel_rfl) (by kernel_rfl) Tryd.underlying4 Tryd.underlying23 Tryd.underlying74 cells_u (hval 0 25 v0 rfl rfl) t0
  obtain ⟨b1, x1, l1, rfl, hs1, hu1⟩ := arg_z Tryd.underlying25 (by kernel_rfl) (by kernel_rfl) Tryd.underlying4 Tryd.underlying23 Tryd.underlying74 cells_u (hval 1 25 v1 rfl rfl) t1
  obtain ⟨b2, x2, l2, rfl, hs2, hu2⟩ := arg_z Tryd.underlying25 (by kernel_rfl) (by kernel_rfl) Tryd.underlying4 Tryd.underlying23 Tryd.underlying74 cells_u (hval 2 25 v2 rfl rfl) t2
  clear hA0 hval0
  simp only [List.append_nil] at hW'
  have hlt0 : ∀ x ∈ p0, x.block < W.heap.size := fun x hx => hW'.lt x (List.mem_append_left _ hx)
  have hlt1 : ∀ x ∈ p1, x.block < W.heap.size := fun x hx => hW'.lt x (List.mem_append_right _ (List.mem_append_left _ hx))
  have hlt2 : ∀ x ∈ p2, x.block < W.heap.size := fun x hx => hW'.lt x (List.mem_append_right _ (List.mem_append_right _ (hx)))
  refine (walk b0 x0 l0 b1 x1 l1 b2 x2 l2 W hs0 hu0 hs1 hu1 hs2 hu2).mono fun e W' ⟨he, hb⟩ => ?_
  subst he
  have s0 := Below.trod laidOut (by kernel_rfl) (of_decide_eq_true (by kernel_rfl)) t0 hb hlt0
  have s1 := Below.trod laidOut (by kernel_rfl) (of_decide_eq_true (by kernel_rfl)) t1 hb hlt1
  have s2 := Below.trod laidOut (by kernel_rfl) (of_decide_eq_true (by kernel_rfl)) t2 hb hlt2
  exact ⟨_, rfl, _, _, _, [] ++ [], _, [], hW', trodAll_cons_mk (shut_bool Tryd.underlying4 _) trodAll_mk0, trodAll_cons_mk s0 (trodAll_cons_mk s1 (trodAll_cons_mk s2 (trodAll_mk0))), rfl, hb.frame _, fun h => by cases h⟩

theorem over : Rows.wholeRingRow.holds Tryd.pinned (OpenSpec.ofChange Rows.wholeRingSpec) :=
  OpenClaim.holds_of_wide 7 Tryd.f7 rfl rfl rfl rfl rfl rfl rfl ⟨rfl, rfl, rfl, rfl, rfl⟩ rfl rfl rfl rfl rfl (by kernel_rfl) Tryd.func7 (by kernel_rfl)
    (of_decide_eq_true (by kernel_rfl)) (by unfold Func.isWrapper; first | (rw [if_pos (by decide +kernel)]; kernel_rfl) | (rw [if_neg (by decide +kernel)]; exact ⟨rfl, rfl⟩))
    (fun os started H enc _ => lifted os started H enc)

/-- The statement: the card. -/
theorem proved : Rows.WholeRingCardSaid :=
  Claim7.holds_tied_plain_at .later [] [.data, .pinned] true _ false over (fun _ h => by cases h) (by kernel_rfl) (fun _ h => by cases h) wholeRing_row_tie rfl ⟨rfl, rfl⟩ (by kernel_rfl) rfl
    (fun f fn hf hfn => by
      obtain rfl : f = 7 := Option.some.inj ((show Tryd.prog.funcNamed Rows.wholeRingRow.func = some 7 by kernel_rfl).symm.trans hf) |>.symm
      obtain rfl : fn = Tryd.f7 := (Option.some.inj (Tryd.func7.symm.trans hfn)).symm
      exact ⟨by kernel_rfl, fun j t ht => by
        rw [Tryd.params7] at ht
        have hm : t ∈ [25, 25, 25] := by simpa using Array.mem_of_getElem? ht
        have hall : ([25, 25, 25].all fun u => !Tryd.prog.wantsStandIn u) = true := by kernel_rfl
        exact (show Tryd.prog.wantsStandIn t = false by simpa using List.all_eq_true.1 hall t hm)⟩)
    (by kernel_rfl)
end Go.Proofs.YtcmjbkgcknimlaaDoor.wholeRing
