/- WholeMakes: whole numbers are made of small ones, of a sign and a size, and added, many at once, as the document says. Condition: the arguments can be read as data. -/
import Derived.Test.YtcmjbkgcknimlaaDoorWhlR
import Derived.Test.YtcmjbkgcknimlaaDoorWhlS
import Derived.Test.YtcmjbkgcknimlaaDoorFlowS
import Derived.Deep.Cut
import Derived.Test.YtcmjbkgcknimlaaDoorCards
import Derived.Test.YtcmjbkgcknimlaaDoorTie
import Derived.OpenShut
import Derived.LaidMore
import Derived.Lay
import Derived.SevenTiedAt
import Derived.Stop.Joined
namespace Go.Proofs.YtcmjbkgcknimlaaDoor.wholeMakes
open Go.ChangeShapes Go.WideShapes Go.ChangeAt Go.RowKit Go.Proofs.YtcmjbkgcknimlaaDoor.num Go.Proofs.YtcmjbkgcknimlaaDoor.mem Go.Proofs.YtcmjbkgcknimlaaDoor.nat Go.Proofs.YtcmjbkgcknimlaaDoor.txt Go.Proofs.YtcmjbkgcknimlaaDoor.str Go.Proofs.YtcmjbkgcknimlaaDoor.flow Go.Proofs.YtcmjbkgcknimlaaDoor.whl
set_option linter.unusedVariables false

theorem own : ownKnob Tryd.prog.godebug = none := by kernel_rfl
theorem laidOut : laidOutB Tryd.prog = true := by kernel_rfl
theorem cells_u : Tryd.prog.cellsOf 74 = 1 := by kernel_rfl


set_option maxHeartbeats 6400000 in
set_option maxRecDepth 100000 in
/-- The walk: the Go text returns true; what was there is as it was. -/
theorem walk (a0 : Int) (b1 : Bool) (v2 : Value) (l2 : List Nat) (v3 : Value) (w : World) (wf0 : (Lit.int .i64 a0).wf = true) (h2 : IsS w .u64 v2 l2) (u2 : Lt 18446744073709551616 l2) (h3 : ArgZ w v3) :
    Calls Tryd.prog 4 #[.int .i64 a0, .bool b1, v2, v3] w (RetV (.bool true) w) := by
  have bn := bounds_i64 wf0
  clear wf0
  obtain ⟨A3, nn, cc, rfl, hn3, hc3, hargs⟩ := h3
  have HA := Lib.hid hargs
  clear hargs
  unfold maxLen at hc3
  obtain ⟨y, hy⟩ : ∃ y, y = cleaned l2 10 := ⟨_, rfl⟩
  have my := cleaned_len l2 10
  have HY := Lib.hid hy.symm
  rw [← hy] at my
  clear hy
  go_enter Tryd.func4, Tryd.ntmps4
  go_wp2_with fail
  refine (HY.out ▸ clean_any v2 l2 _ 10 _ rfl h2 u2 (by omega)).mono ?_
  rintro e w1 ⟨vy, rfl, ky, fy, bq1⟩
  obtain ⟨Ay, cy, rfl, _⟩ := id ky
  have hsz1 := bq1.size
  go_wp2
  go_loopw [9, 11] (fun va vi wr => ∃ (k : Nat) (pl : List (Int × Value)) (z : Int) (Aw : Option Addr) (cw : Nat), k ≤ 6 ∧ k ≤ nn ∧ pl.length = k ∧ RowZ wr w1.heap.size va pl ∧ FarZ wr va pl ∧ Blk wr (w1.heap.size + 1) 30 #[.bool (ngB z), (.slice Aw (digs 10000 z.natAbs).length cw)] ∧ IsS wr .i64 (.slice Aw (digs 10000 z.natAbs).length cw) (digs 10000 z.natAbs) ∧ Far va (.slice Aw (digs 10000 z.natAbs).length cw) ∧ va.ownBlock ≠ some (w1.heap.size + 1) ∧ z = sumZ pl ∧ lenZ z ≤ 7 * k ∧ (digs 4294967296 (abss pl).sum).length ≤ 7 * k ∧ IsS wr .u64 (.slice Ay (digs 4294967296 y).length cy) (digs 4294967296 y) ∧ Far va (.slice Ay (digs 4294967296 y).length cy) ∧ (w1.heap.size + 1) < wr.heap.size ∧ Below w1.heap.size w1 wr ∧ vi = .int .i64 (k : Int)) (fun _ vi _ => nn - (intOf vi).toNat)
  case atStart =>
    have BA := (below_alloc (Nat.le_refl w1.heap.size) (.cells #[] 25)).alloc (by simp) (.cells #[.bool false, .slice none 0 0] 30)
    refine ⟨0, [], 0, none, 0, by omega, by omega, rfl, (rowZ_lit0 w1 w1.heap.size (Nat.le_refl _)).below (below_alloc (Nat.le_refl _) _), (fun p hp => by cases hp), ?_, ?_, ?_, by simp [Value.ownBlock], rfl, by rw [lenZ_zero]; omega, ?_, ky.below BA, ky.farOld (fun g hg => by simp [Value.ownBlock] at hg; omega), by simp, BA, rfl⟩
    · rw [Int.natAbs_zero, digs_zero]
      have h := Blk.new (w1.alloc (.cells #[] 25)) 30 #[.bool false, .slice none 0 0]
      rw [show (w1.alloc (.cells #[] 25)).heap.size = (w1.heap.size + 1) by simp] at h
      exact h
    · rw [Int.natAbs_zero, digs_zero]; exact isNil _ _
    · rintro ad n c e; cases e
    · show (digs 4294967296 0).length ≤ _; rw [digs_zero]; simp
  case round =>
    obtain ⟨k, pl, z, Aw, cw, hk6, hkn, hvl, hrow, hfar, BW, kws, fw, hne, hzs, hlz, hla, ky, fy, hgw, hb, rfl⟩ := hrel
    by_cases hlt : k < nn ∧ k < 6
    · obtain ⟨hlt1, hlt2⟩ := hlt
      obtain ⟨ad, bx, ux, lx, rfl, hc0, hc1, hu, hul⟩ := HA.out k hlt1
      have hbw := bq1.trans (hb.mono bq1.size)
      replace hc0 := (hbw.cell (World.block_lt_of_cell? w _ hc0)).trans hc0
      replace hc1 := (hbw.cell (World.block_lt_of_cell? w _ hc1)).trans hc1
      replace hu := hu.below hbw
      rw [at_one] at hc1
      obtain ⟨Au, cu, rfl, _⟩ := id hu
      have HVL := Lib.hid hvl
      have HZS := Lib.hid hzs
      clear hvl hzs
      obtain ⟨x, hx⟩ : ∃ x, x = cleanZ bx lx 6 := ⟨_, rfl⟩
      have lx6 : lenZ x ≤ 6 := by rw [hx]; exact cleanZ_len _ _ _
      have HX := Lib.hid hx.symm
      clear hx
      go_wp2_with fail
      refine (HX.out ▸ zclean_any bx _ lx _ 6 _ rfl hu hul (by omega)).mono ?_
      rintro e wa ⟨vx, rfl, ⟨ux, rfl, kx⟩, fx, ba⟩
      obtain ⟨Ax, cx, rfl, _⟩ := id kx
      have fvx := (fx _ _ rfl).far hrow.under
      have hrow0 := hrow.under
      have bx1 := ba.trans ((below_alloc (Nat.le_refl _) (.cells #[.bool (ngB x), .slice Ax (digs 4294967296 x.natAbs).length cx] 25)).mono ba.size)
      have BX : Blk (wa.alloc (.cells #[.bool (ngB x), .slice Ax (digs 4294967296 x.natAbs).length cx] 25)) wa.heap.size _ _ := Blk.new _ _ _
      replace kx := kx.below (below_alloc (Nat.le_refl _) (.cells #[.bool (ngB x), .slice Ax (digs 4294967296 x.natAbs).length cx] 25))
      replace hrow := hrow.below bx1
      replace hfar := hfar.below bx1
      replace BW := BW.below bx1
      replace kws := kws.below bx1
      replace ky := ky.below bx1
      replace hb := hb.trans (bx1.mono hb.size)
      have hszb := hb.size
      have hgw2 : (w1.heap.size + 1) < wa.heap.size := by have := ba.size; omega
      have hux := hrow0
      clear hrow0
      clear hc0 hc1 hu hul hgw fx bx1 hbw
      have hbas := ba.size
      clear ba
      go_upto_region 8 with (at_builtin; refine wpList_append_z rfl (.tmp 35) (.tmp 37) rfl Tryd.underlying43 rfl hrow (by show Value.slice (some ⟨wa.heap.size + 1, 0, none⟩) 1 1 = _; simp) rfl (by have := HVL.out; omega) hszb ?_; intro v2 wc hrow2 bc HK)
      have HK2 : Hid (Keeps (wa.alloc (.cells #[.bool (ngB x), .slice Ax (digs 4294967296 x.natAbs).length cx] 25)) wc u9 v2 ∧ (wa.alloc (.cells #[.bool (ngB x), .slice Ax (digs 4294967296 x.natAbs).length cx] 25)).grownBy wc u9.ownBlock ∧ ∀ g, g < (wa.alloc (.cells #[.bool (ngB x), .slice Ax (digs 4294967296 x.natAbs).length cx] 25)).heap.size → u9.ownBlock ≠ some g → v2.ownBlock ≠ some g) := HK
      clear HK
      have hfar2 := hfar.snoc HK2.out.1 kx fvx
      have Bz := BW.other HK2.out.2.1 hne
      have Bx := BX.other HK2.out.2.1 (fun e => by have := hux _ e; omega)
      obtain ⟨kzs, fw2⟩ := HK2.out.1 _ _ _ kws fw
      have kxs := (HK2.out.1 _ _ _ kx fvx).1
      clear kx
      obtain ⟨ky2, fy2⟩ := HK2.out.1 _ _ _ ky fy
      have hne2 := HK2.out.2.2 (w1.heap.size + 1) (by simp; omega) hne
      have bb := hb.trans bc
      have hszc := bb.size
      have hgw3 : (w1.heap.size + 1) < wc.heap.size := by have := bc.size; simp at this; omega
      have hun := hrow2.under
      have kz : IsR wc (.agg #[.bool (ngB z), (.slice Aw (digs 10000 z.natAbs).length cw)]) z := ⟨_, rfl, kzs⟩
      have kx : IsZ wc (.agg #[.bool (ngB x), .slice Ax (digs 4294967296 x.natAbs).length cx]) x := ⟨_, rfl, kxs⟩
      have HN := Lib.hid hne2
      have HZS2 : Hid (z + x = sumZ (pl ++ [(x, .slice Ax (digs 4294967296 x.natAbs).length cx)])) := by show _ = _; rw [sumZ_snoc, ← HZS.out]
      have HLZ2 : Hid (lenZ (z + x) ≤ 7 * (k + 1)) := by show _ ≤ _; have := lenZ_add z x; omega
      have HLA2 : Hid ((digs 4294967296 (abss (pl ++ [(x, .slice Ax (digs 4294967296 x.natAbs).length cx)])).sum).length ≤ 7 * (k + 1)) := by show _ ≤ _; rw [abss_snoc]; have := add_len (abss pl).sum x.natAbs; unfold lenZ at lx6; omega
      have HVL2 : Hid ((pl ++ [(x, Value.slice Ax (digs 4294967296 x.natAbs).length cx)]).length = k + 1) := by show _ = _; rw [List.length_append, HVL.out]; rfl
      have HLZ : Hid (lenZ z ≤ 30000) := by show _ ≤ _; omega
      clear hrow hfar BW BX kws fw ky fy hb hszb hne HK2 fvx hux hbas hla hgw2 bc hne2 hlz HVL HZS
      refine flow 4 [Pd.eq (.agg #[.bool (ngB z), .slice Aw (digs 10000 (z).natAbs).length cw]), Pd.eq (.agg #[.bool (ngB x), .slice Ax (digs 4294967296 (x).natAbs).length cx]), pr (x), prf (z + x) wc.heap.size] (by kernel_rfl) (by kernel_rfl) ?ob1 ?done1
      case ob1 =>
        refine And.intro (ob_load rfl (wt_none rfl) (ev_far rfl rfl) (fun w2 hb => run_loadAll Tryd.underlying30 rfl (by kernel_rfl) (Bz.drew.below hb)) (fun _ _ => rfl)) ?_
        refine And.intro (ob_load rfl (wt_none rfl) (ev_far rfl rfl) (fun w2 hb => run_loadAll Tryd.underlying25 rfl (by kernel_rfl) (Bx.drew.below hb)) (fun _ _ => rfl)) ?_
        refine And.intro (ob_call1 rfl Tryd.func9 (by kernel_rfl) (wt_none rfl) (ev_dep (j := 1) (by kernel_rfl) rfl rfl) (fun w2 u0 hb h0 => by obtain rfl := h0; exact (rof_any _ _ _ (kx.drew.below hb) (Nat.le_trans lx6 (by decide))).mono fun e w3 h => RetR.pd h)) ?_
        refine And.intro (ob_call2 rfl Tryd.func13 (by kernel_rfl) (wt_none rfl) (ev_dep (j := 0) (by kernel_rfl) rfl rfl) (ev_dep (j := 2) (by kernel_rfl) rfl rfl) (fun w2 u0 u1 hb h0 h1 => by obtain rfl := h0; exact (raddf_any _ z _ x _ (kz.drew.below hb) h1 HLZ.out (by omega)).mono fun e w3 h => RetRF.pd h hb.size)) ?_
        trivial
      case done1 =>
        refine fun w21 hb21 v0 h0 v1 h1 v2 h2 v3 h3 b hbf => ?_
        obtain rfl := h0; obtain rfl := h1
        have q2 := h2
        obtain ⟨q3, f3⟩ := h3
        simp only [Act.put, List.setIfInBounds_toArray, List.set_cons_zero, List.set_cons_succ] at hbf
        subst hbf
        replace Bz := Bz.below hb21
        replace Bx := Bx.below hb21
        replace kzs := kzs.below hb21
        replace kxs := kxs.below hb21
        replace kz := kz.below hb21
        replace kx := kx.below hb21
        replace hrow2 := hrow2.below hb21
        replace hfar2 := hfar2.below hb21
        replace ky2 := ky2.below hb21
        replace bb := bb.trans (hb21.mono bb.size)
        have hsz21 := bb.size
        obtain ⟨u3, rfl, q3⟩ := q3
        obtain ⟨A2, c2, rfl, _⟩ := id q3
        have fn := (f3 _ _ rfl).far hun
        refine any_store (i := 4) (by kernel_rfl) rfl rfl rfl rfl rfl rfl (cells := [.bool (ngB (z + x)), .slice A2 (digs 10000 (z + x).natAbs).length c2]) rfl Bz rfl (by kernel_rfl) (one2 rfl rfl) fun wd hgd BN => ?_
        have kn := off q3 Bz no_ints2 hgd
        replace hrow2 := hrow2.other hgd (fun g hg e => HN.out (hg.trans e.symm))
        replace hfar2 := hfar2.off Bz (fun _ => no_ints2) hgd
        replace ky2 := off ky2 Bz no_ints2 hgd
        replace bb := bb.trans ((Below.refl _ _).grown hgd bb.size (fun g hg => by injection hg with hg; omega))
        have hgw4 : (w1.heap.size + 1) < wd.heap.size := by have := hgd.size; have := hb21.size; omega
        clear Bz Bx kzs kxs kz kx q3
        refine any_done (by kernel_rfl) ?_
        go_wp2
        go_roundw
        case rel => exact ⟨k + 1, _, z + x, A2, c2, by omega, by omega, HVL2.out, hrow2, hfar2, BN, kn, fn, HN.out, HZS2.out, HLZ2.out, HLA2.out, ky2, fy2, hgw4, bb, by go_num⟩
        case measure => simp [intOf]; omega
    · have hend : (k < nn ∧ ¬ k < 6) ∨ ¬ k < nn := by omega
      have hVZ := RowZ.isVZ hrow
      have hNZ : NumsZ wr pl := fun p hp => (hfar p hp).1
      have HPS : Hid (pl.length ≤ 1000) := by show _ ≤ _; omega
      have HSA : Hid ((digs 4294967296 (abss pl).sum).length ≤ 1000) := by show _ ≤ _; omega
      have HLZ : Hid (lenZ z ≤ 20000) := by show _ ≤ _; omega
      have HZS : Hid (sumZ pl = z) := hzs.symm
      have bb := bq1.trans (hb.mono bq1.size)
      have hszr := bb.size
      clear hlt hrow hfar fw fy hne hlz hla hb HA hvl hzs
      obtain ⟨m, hm⟩ : ∃ m, m = a0.natAbs := ⟨_, rfl⟩
      have HM1 : Hid ((digs 10000 m).length ≤ 5) := dig10 (by omega)
      have HM2 : Hid ((digs 4294967296 m).length ≤ 2) := dig32 (by omega)
      have HP1 : Hid ((digs 10000 (m / 2)).length ≤ 5) := dig10 (by omega)
      have HP2 : Hid ((digs 10000 (m / 2 + m % 2)).length ≤ 5) := dig10 (by omega)
      have HQ : Hid (m / 2 + (m / 2 + m % 2) = m) := by show _ = _; omega
      have hm2 : m ≤ 9223372036854775808 := by omega
      have HMm := Lib.hid hm
      clear hm
      rcases hend with ⟨he1, he2⟩ | he1
      all_goals
        go_wp2_with fail
        refine (zof_any a0 _ bn.1 bn.2).mono ?_
        rintro e w2 ⟨vn, rfl, ⟨un, rfl, kns⟩, fn, b2⟩
        rw [← HMm.out] at kns
        obtain ⟨An, cn, rfl, _⟩ := id kns
        have bx2 := b2.trans ((below_alloc (Nat.le_refl _) (.cells #[.bool (ngB a0), .slice An (digs 4294967296 m).length cn] 25)).mono b2.size)
        have Bn : Blk (w2.alloc (.cells #[.bool (ngB a0), .slice An (digs 4294967296 m).length cn] 25)) w2.heap.size _ _ := Blk.new _ _ _
        replace kns := kns.below (below_alloc (Nat.le_refl _) (.cells #[.bool (ngB a0), .slice An (digs 4294967296 m).length cn] 25))
        replace hVZ := hVZ.below bx2
        replace hNZ := hNZ.below bx2
        replace BW := BW.below bx2
        replace kws := kws.below bx2
        replace ky := ky.below bx2
        replace bb := bb.trans (bx2.mono bb.size)
        clear fn b2 bx2
        by_cases hneg : a0 < 0
        · have E1 : Hid (wrap64 (-a0.tdiv 2) = ((m / 2 : Nat) : Int)) := by show _ = _; rw [HMm.out]; exact half1 hneg bn.1
          have E2 : Hid (wrap64 (-wrap64 (a0.tdiv 2 + a0.tmod 2)) = ((m / 2 + m % 2 : Nat) : Int)) := by show _ = _; rw [HMm.out]; exact half2 hneg bn.1
          have hng : Hid (ngB a0 = true) := ngB_of_neg hneg
          have HD : Hid (decide (a0 < 0) = true) := decide_eq_true hneg
          go_wp2_with fail
          refine (refNum_wide _ (m / 2) _ E1.out (by omega)).mono ?_
          rintro e w3 ⟨v3, rfl, k3, f3, b3⟩
          have bS := (below_alloc (Nat.le_refl _) (.cells #[] 3)).trans (b3.mono (below_alloc (Nat.le_refl _) (.cells #[] 3)).size)
          go_wp2_with fail
          refine (refNum_wide _ (m / 2 + m % 2) _ E2.out (by omega)).mono ?_
          rintro e w4 ⟨v4, rfl, k4, f4, b4⟩
          replace bS := bS.trans (b4.mono bS.size)
          go_wp2_with fail
          refine (HQ.out ▸ refAdd_any _ _ (m / 2) (m / 2 + m % 2) _ (k3.below b4) k4 (Nat.le_trans HP1.out (by decide)) (Nat.le_trans HP2.out (by decide))).mono ?_
          rintro e w5 ⟨v5, rfl, k5, f5, b5⟩
          replace bS := bS.trans (b5.mono bS.size)
          obtain ⟨A5, c5, rfl, _⟩ := id k5
          replace Bn := Bn.below bS
          rw [hng.out] at Bn
          replace kns := kns.below bS
          replace hVZ := hVZ.below bS
          replace hNZ := hNZ.below bS
          have Bz := BW.below bS
          have kzs := kws.below bS
          replace ky := ky.below bS
          replace bb := bb.trans (bS.mono bb.size)
          have hsz30 := bb.size
          have kz : IsR w5 (.agg #[.bool (ngB z), (.slice Aw (digs 10000 z.natAbs).length cw)]) z := ⟨_, rfl, kzs⟩
          clear BW kws k3 k4 f3 f4 f5 b3 b4 b5 bS E1 E2
          clear hneg
          cases b1
          · obtain ⟨G, hG⟩ : ∃ G, G = sg false y := ⟨_, rfl⟩
            have HG := Lib.hid hG
            clear hG
            go_upto_region 14 with (fail)
            refine flow 37 [Pd.eq (.pointer (some ⟨w2.heap.size, 0, none⟩)), Pd.eq (.bool true), Pd.eq (.int .i64 a0), Pd.eq (.bool true), Pd.eq (.bool true), Pd.eq (.bool true), Pd.eq (.pointer (some ⟨w2.heap.size, 1, none⟩)), Pd.eq (.slice An (digs 4294967296 m).length cn), Pd.eq (.slice A5 (digs 10000 m).length c5), ps .u64 (digs 4294967296 m) w5.heap.size, Pd.eq (.bool true), Pd.eq (.bool true), Pd.eq (.bool true), Pd.eq (.bool false), Pd.eq (.slice Ay (digs 4294967296 y).length cy), pz (G) w5.heap.size, Pd.eq (.bool false), Pd.eq (.bool false), Pd.any, Pd.any, Pd.any, Pd.eq (.bool false), Pd.eq (.slice Ay (digs 4294967296 y).length cy), pi (G), Pd.eq (.bool true), Pd.eq (.bool true), Pd.eq (.bool true), Pd.eq (u9), pz (z) w5.heap.size, Pd.eq (.agg #[.bool (ngB z), .slice Aw (digs 10000 (z).natAbs).length cw]), pz (z) w5.heap.size, Pd.eq (.bool true), Pd.eq (.bool true), Pd.eq (.bool true), Pd.eq (.bool true), Pd.eq (.bool true), Pd.eq (.bool true)] (by kernel_rfl) (by kernel_rfl) ?ob2 ?done2
            case ob2 =>
              refine And.intro (ob_fieldAddr rfl (wt_none rfl) (ev_far rfl rfl) (fun _ => by kernel_rfl) (fun _ => rfl)) ?_
              refine And.intro (ob_load rfl (wt_none rfl) (ev_dep (j := 0) (by kernel_rfl) rfl rfl) (fun w2 hb => run_load1 Tryd.underlying4 rfl ((Bn.drew.below hb).cell 0)) (fun _ _ => rfl)) ?_
              refine And.intro (ob_move rfl (wt_none rfl) (ev_far rfl rfl) (fun _ _ h => h)) ?_
              refine And.intro (ob_bin rfl (wt_none rfl) (ev_dep (j := 2) (by kernel_rfl) rfl rfl) (ev_const _) (fun _ _ _ hx hy => ⟨.bool true, by rw [hx, hy, bin_lss_int, HD.out], rfl⟩)) ?_
              refine And.intro (ob_bin rfl (wt_none rfl) (ev_dep (j := 1) (by kernel_rfl) rfl rfl) (ev_dep (j := 3) (by kernel_rfl) rfl rfl) (fun _ _ _ hx hy => ⟨.bool (true == true), by rw [hx, hy]; exact bin_eql_bool _ _ _ _ Tryd.underlying4 _, rfl⟩)) ?_
              refine And.intro (ob_move rfl (wt_none rfl) (ev_dep (j := 4) (by kernel_rfl) rfl rfl) (fun _ _ h => h)) ?_
              refine And.intro (ob_fieldAddr rfl (wt_dep (c := true) (b := true) (g := 5) rfl (by kernel_rfl) rfl rfl rfl (by exact fun _ _ h => h)) (ev_far rfl rfl) (fun _ => by kernel_rfl) (fun _ => rfl)) ?_
              refine And.intro (ob_load rfl (wt_dep (c := true) (b := true) (g := 5) rfl (by kernel_rfl) rfl rfl rfl (by exact fun _ _ h => h)) (ev_dep (j := 6) (by kernel_rfl) rfl rfl) (fun w2 hb => run_load1 Tryd.underlying23 rfl ((Bn.drew.below hb).cell 1)) (fun _ _ => rfl)) ?_
              refine And.intro (ob_move rfl (wt_dep (c := true) (b := true) (g := 5) rfl (by kernel_rfl) rfl rfl rfl (by exact fun _ _ h => h)) (ev_far rfl rfl) (fun _ _ h => h)) ?_
              refine And.intro (ob_call1 rfl Tryd.func30 (by kernel_rfl) (wt_dep (c := true) (b := true) (g := 5) rfl (by kernel_rfl) rfl rfl rfl (by exact fun _ _ h => h)) (ev_dep (j := 8) (by kernel_rfl) rfl rfl) (fun w2 u0 hb h0 => by obtain rfl := h0; exact (refBack_any _ m _ (k5.drew.below hb) (Nat.le_trans HM1.out (by decide)) (Nat.le_trans HM2.out (by decide))).mono fun e w3 h => RetS.pd h hb.size)) ?_
              refine And.intro (ob_call2 rfl Tryd.func29 (by kernel_rfl) (wt_dep (c := true) (b := true) (g := 5) rfl (by kernel_rfl) rfl rfl rfl (by exact fun _ _ h => h)) (ev_dep (j := 7) (by kernel_rfl) rfl rfl) (ev_dep (j := 9) (by kernel_rfl) rfl rfl) (fun w2 u0 u1 hb h0 h1 => by obtain rfl := h0; exact (same_one _ _ m _ (kns.drew.below hb) h1.1).mono fun e w3 h => RetV.pd h)) ?_
              refine And.intro (ob_pick (b := true) rfl (wt_none rfl) (ev_dep (j := 5) (by kernel_rfl) rfl rfl) (ev_dep (j := 10) (by kernel_rfl) rfl rfl) (fun _ _ h => h)) ?_
              refine And.intro (ob_move rfl (wt_none rfl) (ev_dep (j := 11) (by kernel_rfl) rfl rfl) (fun _ _ h => h)) ?_
              refine And.intro (ob_move rfl (wt_dep (c := true) (b := true) (g := 12) rfl (by kernel_rfl) rfl rfl rfl (by exact fun _ _ h => h)) (ev_far rfl rfl) (fun _ _ h => h)) ?_
              refine And.intro (ob_move rfl (wt_dep (c := true) (b := true) (g := 12) rfl (by kernel_rfl) rfl rfl rfl (by exact fun _ _ h => h)) (ev_far rfl rfl) (fun _ _ h => h)) ?_
              refine And.intro (ob_call2 rfl Tryd.func31 (by kernel_rfl) (wt_dep (c := true) (b := true) (g := 12) rfl (by kernel_rfl) rfl rfl rfl (by exact fun _ _ h => h)) (ev_dep (j := 13) (by kernel_rfl) rfl rfl) (ev_dep (j := 14) (by kernel_rfl) rfl rfl) (fun w2 u0 u1 hb h0 h1 => by obtain rfl := h0; obtain rfl := h1; exact (made_any false _ y G _ (ky.drew.below hb) (Nat.le_trans my (by decide)) HG.out).mono fun e w3 h => RetZ.pd h hb.size)) ?_
              refine And.intro (ob_move rfl (wt_dep (c := true) (b := true) (g := 12) rfl (by kernel_rfl) rfl rfl rfl (by exact fun _ _ h => h)) (ev_far rfl rfl) (fun _ _ h => h)) ?_
              refine And.intro (ob_move rfl (wt_dep (c := true) (b := true) (g := 12) rfl (by kernel_rfl) rfl rfl rfl (by exact fun _ _ h => h)) (ev_dep (j := 16) (by kernel_rfl) rfl rfl) (fun _ _ h => h)) ?_
              refine And.intro (ob_not (wt_dep (c := false) (b := true) (g := 17) rfl (by kernel_rfl) rfl rfl rfl (by exact fun _ _ h => h)) (fun _ => trivial) rfl) ?_
              refine And.intro (ob_not (wt_dep (c := false) (b := true) (g := 17) rfl (by kernel_rfl) rfl rfl rfl (by exact fun _ _ h => h)) (fun _ => trivial) rfl) ?_
              refine And.intro (ob_not (wt_dep (c := false) (b := true) (g := 17) rfl (by kernel_rfl) rfl rfl rfl (by exact fun _ _ h => h)) (fun _ => trivial) rfl) ?_
              refine And.intro (ob_pick (b := false) rfl (wt_dep (c := true) (b := true) (g := 12) rfl (by kernel_rfl) rfl rfl rfl (by exact fun _ _ h => h)) (ev_dep (j := 17) (by kernel_rfl) rfl rfl) (ev_const _) (fun _ _ h => h)) ?_
              refine And.intro (ob_move rfl (wt_dep (c := true) (b := true) (g := 12) rfl (by kernel_rfl) rfl rfl rfl (by exact fun _ _ h => h)) (ev_far rfl rfl) (fun _ _ h => h)) ?_
              refine And.intro (ob_build2b rfl (wt_dep (c := true) (b := true) (g := 12) rfl (by kernel_rfl) rfl rfl rfl (by exact fun _ _ h => h)) (ev_dep (j := 21) (by kernel_rfl) rfl rfl) (ev_dep (j := 22) (by kernel_rfl) rfl rfl) (fun w2 u v hb hu hv => by obtain rfl := hu; obtain rfl := hv; rw [HG.out]; exact ⟨_, by kernel_rfl, isZ_mk (ky.drew.below hb) (sg_abs _ _) (ngB_no y)⟩)) ?_
              refine And.intro (ob_call2 rfl Tryd.func10 (by kernel_rfl) (wt_dep (c := true) (b := true) (g := 12) rfl (by kernel_rfl) rfl rfl rfl (by exact fun _ _ h => h)) (ev_dep (j := 15) (by kernel_rfl) rfl rfl) (ev_dep (j := 23) (by kernel_rfl) rfl rfl) (fun w2 u0 u1 hb h0 h1 => by exact (zsame_eq _ _ (G) (G) _ h0.1 h1 rfl).mono fun e w3 h => RetV.pd h)) ?_
              refine And.intro (ob_pick (b := true) rfl (wt_none rfl) (ev_dep (j := 12) (by kernel_rfl) rfl rfl) (ev_dep (j := 24) (by kernel_rfl) rfl rfl) (fun _ _ h => h)) ?_
              refine And.intro (ob_move rfl (wt_none rfl) (ev_dep (j := 25) (by kernel_rfl) rfl rfl) (fun _ _ h => h)) ?_
              refine And.intro (ob_move rfl (wt_dep (c := true) (b := true) (g := 26) rfl (by kernel_rfl) rfl rfl rfl (by exact fun _ _ h => h)) (ev_far rfl rfl) (fun _ _ h => h)) ?_
              refine And.intro (ob_call1 rfl Tryd.func32 (by kernel_rfl) (wt_dep (c := true) (b := true) (g := 26) rfl (by kernel_rfl) rfl rfl rfl (by exact fun _ _ h => h)) (ev_dep (j := 27) (by kernel_rfl) rfl rfl) (fun w2 u0 hb h0 => by obtain rfl := h0; exact (HZS.out ▸ zsum_any _ pl _ (hVZ.drew.below hb) (hNZ.drew.below hb) HPS.out HSA.out).mono fun e w3 h => RetZ.pd h hb.size)) ?_
              refine And.intro (ob_load rfl (wt_dep (c := true) (b := true) (g := 26) rfl (by kernel_rfl) rfl rfl rfl (by exact fun _ _ h => h)) (ev_far rfl rfl) (fun w2 hb => run_loadAll Tryd.underlying30 rfl (by kernel_rfl) (Bz.drew.below hb)) (fun _ _ => rfl)) ?_
              refine And.intro (ob_call1 rfl Tryd.func12 (by kernel_rfl) (wt_dep (c := true) (b := true) (g := 26) rfl (by kernel_rfl) rfl rfl rfl (by exact fun _ _ h => h)) (ev_dep (j := 29) (by kernel_rfl) rfl rfl) (fun w2 u0 hb h0 => by obtain rfl := h0; exact (rback_any _ _ _ (kz.drew.below hb) (Nat.le_trans HLZ.out (by decide))).mono fun e w3 h => RetZ.pd h hb.size)) ?_
              refine And.intro (ob_call2 rfl Tryd.func10 (by kernel_rfl) (wt_dep (c := true) (b := true) (g := 26) rfl (by kernel_rfl) rfl rfl rfl (by exact fun _ _ h => h)) (ev_dep (j := 28) (by kernel_rfl) rfl rfl) (ev_dep (j := 30) (by kernel_rfl) rfl rfl) (fun w2 u0 u1 hb h0 h1 => by exact (zsame_eq _ _ (z) (z) _ h0.1 h1.1 rfl).mono fun e w3 h => RetV.pd h)) ?_
              refine And.intro (ob_pick (b := true) rfl (wt_none rfl) (ev_dep (j := 26) (by kernel_rfl) rfl rfl) (ev_dep (j := 31) (by kernel_rfl) rfl rfl) (fun _ _ h => h)) ?_
              refine And.intro (ob_move rfl (wt_none rfl) (ev_dep (j := 32) (by kernel_rfl) rfl rfl) (fun _ _ h => h)) ?_
              refine And.intro (ob_call0 rfl Tryd.func24 (by kernel_rfl) (wt_dep (c := true) (b := true) (g := 33) rfl (by kernel_rfl) rfl rfl rfl (by exact fun _ _ h => h)) (fun w2 hb => (works7_any _).mono fun e w3 h => RetV.pd h)) ?_
              refine And.intro (ob_pick (b := true) rfl (wt_none rfl) (ev_dep (j := 33) (by kernel_rfl) rfl rfl) (ev_dep (j := 34) (by kernel_rfl) rfl rfl) (fun _ _ h => h)) ?_
              refine And.intro (ob_assign rfl (wt_none rfl) (ev_dep (j := 35) (by kernel_rfl) rfl rfl) (fun _ _ h => h)) ?_
              trivial
            case done2 =>
              refine fun w31 hb31 v0 h0 v1 h1 v2 h2 v3 h3 v4 h4 v5 h5 v6 h6 v7 h7 v8 h8 v9 h9 v10 h10 v11 h11 v12 h12 v13 h13 v14 h14 v15 h15 v16 h16 v17 h17 v18 h18 v19 h19 v20 h20 v21 h21 v22 h22 v23 h23 v24 h24 v25 h25 v26 h26 v27 h27 v28 h28 v29 h29 v30 h30 v31 h31 v32 h32 v33 h33 v34 h34 v35 h35 v36 h36 b hbf => ?_
              obtain rfl := h0; obtain rfl := h1; obtain rfl := h2; obtain rfl := h3; obtain rfl := h4; obtain rfl := h5; obtain rfl := h6; obtain rfl := h7; obtain rfl := h8; obtain rfl := h10; obtain rfl := h11; obtain rfl := h12; obtain rfl := h13; obtain rfl := h14; obtain rfl := h16; obtain rfl := h17; obtain rfl := h21; obtain rfl := h22; obtain rfl := h24; obtain rfl := h25; obtain rfl := h26; obtain rfl := h27; obtain rfl := h29; obtain rfl := h31; obtain rfl := h32; obtain rfl := h33; obtain rfl := h34; obtain rfl := h35; obtain rfl := h36
              obtain ⟨q9, f9⟩ := h9
              obtain ⟨q15, f15⟩ := h15
              clear h18
              clear h19
              clear h20
              have q23 := h23
              obtain ⟨q28, f28⟩ := h28
              obtain ⟨q30, f30⟩ := h30
              simp only [Act.put, List.setIfInBounds_toArray, List.set_cons_zero, List.set_cons_succ] at hbf
              subst hbf
              replace Bz := Bz.below hb31
              replace Bn := Bn.below hb31
              replace kzs := kzs.below hb31
              replace kz := kz.below hb31
              replace hVZ := hVZ.below hb31
              replace hNZ := hNZ.below hb31
              replace ky := ky.below hb31
              replace k5 := k5.below hb31
              replace kns := kns.below hb31
              replace bb := bb.trans (hb31.mono bb.size)
              have hsz31 := bb.size
              refine any_done (by kernel_rfl) ?_
              go_wp2
              go_ret
              exact ⟨rfl, bb⟩
          · obtain ⟨G, hG⟩ : ∃ G, G = sg true y := ⟨_, rfl⟩
            have HG := Lib.hid hG
            clear hG
            go_upto_region 14 with (fail)
            refine flow 37 [Pd.eq (.pointer (some ⟨w2.heap.size, 0, none⟩)), Pd.eq (.bool true), Pd.eq (.int .i64 a0), Pd.eq (.bool true), Pd.eq (.bool true), Pd.eq (.bool true), Pd.eq (.pointer (some ⟨w2.heap.size, 1, none⟩)), Pd.eq (.slice An (digs 4294967296 m).length cn), Pd.eq (.slice A5 (digs 10000 m).length c5), ps .u64 (digs 4294967296 m) w5.heap.size, Pd.eq (.bool true), Pd.eq (.bool true), Pd.eq (.bool true), Pd.eq (.bool true), Pd.eq (.slice Ay (digs 4294967296 y).length cy), pz (G) w5.heap.size, Pd.eq (.bool true), Pd.eq (.bool true), Pd.eq (.slice Ay (digs 4294967296 y).length cy), Pd.eq (.int .i64 (((digs 4294967296 y).length : Nat) : Int)), Pd.eq (.bool (decide (0 < (((digs 4294967296 y).length : Nat) : Int)))), Pd.eq (.bool (decide (0 < (((digs 4294967296 y).length : Nat) : Int)))), Pd.eq (.slice Ay (digs 4294967296 y).length cy), pi (G), Pd.eq (.bool true), Pd.eq (.bool true), Pd.eq (.bool true), Pd.eq (u9), pz (z) w5.heap.size, Pd.eq (.agg #[.bool (ngB z), .slice Aw (digs 10000 (z).natAbs).length cw]), pz (z) w5.heap.size, Pd.eq (.bool true), Pd.eq (.bool true), Pd.eq (.bool true), Pd.eq (.bool true), Pd.eq (.bool true), Pd.eq (.bool true)] (by kernel_rfl) (by kernel_rfl) ?ob3 ?done3
            case ob3 =>
              refine And.intro (ob_fieldAddr rfl (wt_none rfl) (ev_far rfl rfl) (fun _ => by kernel_rfl) (fun _ => rfl)) ?_
              refine And.intro (ob_load rfl (wt_none rfl) (ev_dep (j := 0) (by kernel_rfl) rfl rfl) (fun w2 hb => run_load1 Tryd.underlying4 rfl ((Bn.drew.below hb).cell 0)) (fun _ _ => rfl)) ?_
              refine And.intro (ob_move rfl (wt_none rfl) (ev_far rfl rfl) (fun _ _ h => h)) ?_
              refine And.intro (ob_bin rfl (wt_none rfl) (ev_dep (j := 2) (by kernel_rfl) rfl rfl) (ev_const _) (fun _ _ _ hx hy => ⟨.bool true, by rw [hx, hy, bin_lss_int, HD.out], rfl⟩)) ?_
              refine And.intro (ob_bin rfl (wt_none rfl) (ev_dep (j := 1) (by kernel_rfl) rfl rfl) (ev_dep (j := 3) (by kernel_rfl) rfl rfl) (fun _ _ _ hx hy => ⟨.bool (true == true), by rw [hx, hy]; exact bin_eql_bool _ _ _ _ Tryd.underlying4 _, rfl⟩)) ?_
              refine And.intro (ob_move rfl (wt_none rfl) (ev_dep (j := 4) (by kernel_rfl) rfl rfl) (fun _ _ h => h)) ?_
              refine And.intro (ob_fieldAddr rfl (wt_dep (c := true) (b := true) (g := 5) rfl (by kernel_rfl) rfl rfl rfl (by exact fun _ _ h => h)) (ev_far rfl rfl) (fun _ => by kernel_rfl) (fun _ => rfl)) ?_
              refine And.intro (ob_load rfl (wt_dep (c := true) (b := true) (g := 5) rfl (by kernel_rfl) rfl rfl rfl (by exact fun _ _ h => h)) (ev_dep (j := 6) (by kernel_rfl) rfl rfl) (fun w2 hb => run_load1 Tryd.underlying23 rfl ((Bn.drew.below hb).cell 1)) (fun _ _ => rfl)) ?_
              refine And.intro (ob_move rfl (wt_dep (c := true) (b := true) (g := 5) rfl (by kernel_rfl) rfl rfl rfl (by exact fun _ _ h => h)) (ev_far rfl rfl) (fun _ _ h => h)) ?_
              refine And.intro (ob_call1 rfl Tryd.func30 (by kernel_rfl) (wt_dep (c := true) (b := true) (g := 5) rfl (by kernel_rfl) rfl rfl rfl (by exact fun _ _ h => h)) (ev_dep (j := 8) (by kernel_rfl) rfl rfl) (fun w2 u0 hb h0 => by obtain rfl := h0; exact (refBack_any _ m _ (k5.drew.below hb) (Nat.le_trans HM1.out (by decide)) (Nat.le_trans HM2.out (by decide))).mono fun e w3 h => RetS.pd h hb.size)) ?_
              refine And.intro (ob_call2 rfl Tryd.func29 (by kernel_rfl) (wt_dep (c := true) (b := true) (g := 5) rfl (by kernel_rfl) rfl rfl rfl (by exact fun _ _ h => h)) (ev_dep (j := 7) (by kernel_rfl) rfl rfl) (ev_dep (j := 9) (by kernel_rfl) rfl rfl) (fun w2 u0 u1 hb h0 h1 => by obtain rfl := h0; exact (same_one _ _ m _ (kns.drew.below hb) h1.1).mono fun e w3 h => RetV.pd h)) ?_
              refine And.intro (ob_pick (b := true) rfl (wt_none rfl) (ev_dep (j := 5) (by kernel_rfl) rfl rfl) (ev_dep (j := 10) (by kernel_rfl) rfl rfl) (fun _ _ h => h)) ?_
              refine And.intro (ob_move rfl (wt_none rfl) (ev_dep (j := 11) (by kernel_rfl) rfl rfl) (fun _ _ h => h)) ?_
              refine And.intro (ob_move rfl (wt_dep (c := true) (b := true) (g := 12) rfl (by kernel_rfl) rfl rfl rfl (by exact fun _ _ h => h)) (ev_far rfl rfl) (fun _ _ h => h)) ?_
              refine And.intro (ob_move rfl (wt_dep (c := true) (b := true) (g := 12) rfl (by kernel_rfl) rfl rfl rfl (by exact fun _ _ h => h)) (ev_far rfl rfl) (fun _ _ h => h)) ?_
              refine And.intro (ob_call2 rfl Tryd.func31 (by kernel_rfl) (wt_dep (c := true) (b := true) (g := 12) rfl (by kernel_rfl) rfl rfl rfl (by exact fun _ _ h => h)) (ev_dep (j := 13) (by kernel_rfl) rfl rfl) (ev_dep (j := 14) (by kernel_rfl) rfl rfl) (fun w2 u0 u1 hb h0 h1 => by obtain rfl := h0; obtain rfl := h1; exact (made_any true _ y G _ (ky.drew.below hb) (Nat.le_trans my (by decide)) HG.out).mono fun e w3 h => RetZ.pd h hb.size)) ?_
              refine And.intro (ob_move rfl (wt_dep (c := true) (b := true) (g := 12) rfl (by kernel_rfl) rfl rfl rfl (by exact fun _ _ h => h)) (ev_far rfl rfl) (fun _ _ h => h)) ?_
              refine And.intro (ob_move rfl (wt_dep (c := true) (b := true) (g := 12) rfl (by kernel_rfl) rfl rfl rfl (by exact fun _ _ h => h)) (ev_dep (j := 16) (by kernel_rfl) rfl rfl) (fun _ _ h => h)) ?_
              refine And.intro (ob_move rfl (wt_dep (c := true) (b := true) (g := 17) rfl (by kernel_rfl) rfl rfl rfl (by exact fun _ _ h => h)) (ev_far rfl rfl) (fun _ _ h => h)) ?_
              refine And.intro (ob_len rfl (wt_dep (c := true) (b := true) (g := 17) rfl (by kernel_rfl) rfl rfl rfl (by exact fun _ _ h => h)) (ev_dep (j := 18) (by kernel_rfl) rfl rfl) (fun _ _ hx => ⟨_, by rw [hx]; exact len_slice Tryd.underlying23 _ _ _ _, rfl⟩)) ?_
              refine And.intro (ob_bin rfl (wt_dep (c := true) (b := true) (g := 17) rfl (by kernel_rfl) rfl rfl rfl (by exact fun _ _ h => h)) (ev_dep (j := 19) (by kernel_rfl) rfl rfl) (ev_const _) (fun _ _ _ hx hy => ⟨.bool (decide (0 < (((digs 4294967296 y).length : Nat) : Int))), by rw [hx, hy]; exact bin_gtr_int _ _ _ _ _, rfl⟩)) ?_
              refine And.intro (ob_pick (b := true) rfl (wt_dep (c := true) (b := true) (g := 12) rfl (by kernel_rfl) rfl rfl rfl (by exact fun _ _ h => h)) (ev_dep (j := 17) (by kernel_rfl) rfl rfl) (ev_dep (j := 20) (by kernel_rfl) rfl rfl) (fun _ _ h => h)) ?_
              refine And.intro (ob_move rfl (wt_dep (c := true) (b := true) (g := 12) rfl (by kernel_rfl) rfl rfl rfl (by exact fun _ _ h => h)) (ev_far rfl rfl) (fun _ _ h => h)) ?_
              refine And.intro (ob_build2b rfl (wt_dep (c := true) (b := true) (g := 12) rfl (by kernel_rfl) rfl rfl rfl (by exact fun _ _ h => h)) (ev_dep (j := 21) (by kernel_rfl) rfl rfl) (ev_dep (j := 22) (by kernel_rfl) rfl rfl) (fun w2 u v hb hu hv => by obtain rfl := hu; obtain rfl := hv; rw [HG.out]; exact ⟨_, by kernel_rfl, isZ_mk (ky.drew.below hb) (sg_abs _ _) (ngB_len y)⟩)) ?_
              refine And.intro (ob_call2 rfl Tryd.func10 (by kernel_rfl) (wt_dep (c := true) (b := true) (g := 12) rfl (by kernel_rfl) rfl rfl rfl (by exact fun _ _ h => h)) (ev_dep (j := 15) (by kernel_rfl) rfl rfl) (ev_dep (j := 23) (by kernel_rfl) rfl rfl) (fun w2 u0 u1 hb h0 h1 => by exact (zsame_eq _ _ (G) (G) _ h0.1 h1 rfl).mono fun e w3 h => RetV.pd h)) ?_
              refine And.intro (ob_pick (b := true) rfl (wt_none rfl) (ev_dep (j := 12) (by kernel_rfl) rfl rfl) (ev_dep (j := 24) (by kernel_rfl) rfl rfl) (fun _ _ h => h)) ?_
              refine And.intro (ob_move rfl (wt_none rfl) (ev_dep (j := 25) (by kernel_rfl) rfl rfl) (fun _ _ h => h)) ?_
              refine And.intro (ob_move rfl (wt_dep (c := true) (b := true) (g := 26) rfl (by kernel_rfl) rfl rfl rfl (by exact fun _ _ h => h)) (ev_far rfl rfl) (fun _ _ h => h)) ?_
              refine And.intro (ob_call1 rfl Tryd.func32 (by kernel_rfl) (wt_dep (c := true) (b := true) (g := 26) rfl (by kernel_rfl) rfl rfl rfl (by exact fun _ _ h => h)) (ev_dep (j := 27) (by kernel_rfl) rfl rfl) (fun w2 u0 hb h0 => by obtain rfl := h0; exact (HZS.out ▸ zsum_any _ pl _ (hVZ.drew.below hb) (hNZ.drew.below hb) HPS.out HSA.out).mono fun e w3 h => RetZ.pd h hb.size)) ?_
              refine And.intro (ob_load rfl (wt_dep (c := true) (b := true) (g := 26) rfl (by kernel_rfl) rfl rfl rfl (by exact fun _ _ h => h)) (ev_far rfl rfl) (fun w2 hb => run_loadAll Tryd.underlying30 rfl (by kernel_rfl) (Bz.drew.below hb)) (fun _ _ => rfl)) ?_
              refine And.intro (ob_call1 rfl Tryd.func12 (by kernel_rfl) (wt_dep (c := true) (b := true) (g := 26) rfl (by kernel_rfl) rfl rfl rfl (by exact fun _ _ h => h)) (ev_dep (j := 29) (by kernel_rfl) rfl rfl) (fun w2 u0 hb h0 => by obtain rfl := h0; exact (rback_any _ _ _ (kz.drew.below hb) (Nat.le_trans HLZ.out (by decide))).mono fun e w3 h => RetZ.pd h hb.size)) ?_
              refine And.intro (ob_call2 rfl Tryd.func10 (by kernel_rfl) (wt_dep (c := true) (b := true) (g := 26) rfl (by kernel_rfl) rfl rfl rfl (by exact fun _ _ h => h)) (ev_dep (j := 28) (by kernel_rfl) rfl rfl) (ev_dep (j := 30) (by kernel_rfl) rfl rfl) (fun w2 u0 u1 hb h0 h1 => by exact (zsame_eq _ _ (z) (z) _ h0.1 h1.1 rfl).mono fun e w3 h => RetV.pd h)) ?_
              refine And.intro (ob_pick (b := true) rfl (wt_none rfl) (ev_dep (j := 26) (by kernel_rfl) rfl rfl) (ev_dep (j := 31) (by kernel_rfl) rfl rfl) (fun _ _ h => h)) ?_
              refine And.intro (ob_move rfl (wt_none rfl) (ev_dep (j := 32) (by kernel_rfl) rfl rfl) (fun _ _ h => h)) ?_
              refine And.intro (ob_call0 rfl Tryd.func24 (by kernel_rfl) (wt_dep (c := true) (b := true) (g := 33) rfl (by kernel_rfl) rfl rfl rfl (by exact fun _ _ h => h)) (fun w2 hb => (works7_any _).mono fun e w3 h => RetV.pd h)) ?_
              refine And.intro (ob_pick (b := true) rfl (wt_none rfl) (ev_dep (j := 33) (by kernel_rfl) rfl rfl) (ev_dep (j := 34) (by kernel_rfl) rfl rfl) (fun _ _ h => h)) ?_
              refine And.intro (ob_assign rfl (wt_none rfl) (ev_dep (j := 35) (by kernel_rfl) rfl rfl) (fun _ _ h => h)) ?_
              trivial
            case done3 =>
              refine fun w31 hb31 v0 h0 v1 h1 v2 h2 v3 h3 v4 h4 v5 h5 v6 h6 v7 h7 v8 h8 v9 h9 v10 h10 v11 h11 v12 h12 v13 h13 v14 h14 v15 h15 v16 h16 v17 h17 v18 h18 v19 h19 v20 h20 v21 h21 v22 h22 v23 h23 v24 h24 v25 h25 v26 h26 v27 h27 v28 h28 v29 h29 v30 h30 v31 h31 v32 h32 v33 h33 v34 h34 v35 h35 v36 h36 b hbf => ?_
              obtain rfl := h0; obtain rfl := h1; obtain rfl := h2; obtain rfl := h3; obtain rfl := h4; obtain rfl := h5; obtain rfl := h6; obtain rfl := h7; obtain rfl := h8; obtain rfl := h10; obtain rfl := h11; obtain rfl := h12; obtain rfl := h13; obtain rfl := h14; obtain rfl := h16; obtain rfl := h17; obtain rfl := h18; obtain rfl := h19; obtain rfl := h20; obtain rfl := h21; obtain rfl := h22; obtain rfl := h24; obtain rfl := h25; obtain rfl := h26; obtain rfl := h27; obtain rfl := h29; obtain rfl := h31; obtain rfl := h32; obtain rfl := h33; obtain rfl := h34; obtain rfl := h35; obtain rfl := h36
              obtain ⟨q9, f9⟩ := h9
              obtain ⟨q15, f15⟩ := h15
              have q23 := h23
              obtain ⟨q28, f28⟩ := h28
              obtain ⟨q30, f30⟩ := h30
              simp only [Act.put, List.setIfInBounds_toArray, List.set_cons_zero, List.set_cons_succ] at hbf
              subst hbf
              replace Bz := Bz.below hb31
              replace Bn := Bn.below hb31
              replace kzs := kzs.below hb31
              replace kz := kz.below hb31
              replace hVZ := hVZ.below hb31
              replace hNZ := hNZ.below hb31
              replace ky := ky.below hb31
              replace k5 := k5.below hb31
              replace kns := kns.below hb31
              replace bb := bb.trans (hb31.mono bb.size)
              have hsz31 := bb.size
              refine any_done (by kernel_rfl) ?_
              go_wp2
              go_ret
              exact ⟨rfl, bb⟩
        · have E1 : Hid (a0 / 2 = ((m / 2 : Nat) : Int)) := by show _ = _; have := HMm.out; omega
          have E2 : Hid (a0 / 2 + a0 % 2 = ((m / 2 + m % 2 : Nat) : Int)) := by show _ = _; have := HMm.out; omega
          have hng : Hid (ngB a0 = false) := ngB_of_pos hneg
          have HD : Hid (decide (a0 < 0) = false) := decide_eq_false hneg
          go_wp2_with fail
          refine (refNum_wide _ (m / 2) _ E1.out (by omega)).mono ?_
          rintro e w3 ⟨v3, rfl, k3, f3, b3⟩
          have bS := (below_alloc (Nat.le_refl _) (.cells #[] 3)).trans (b3.mono (below_alloc (Nat.le_refl _) (.cells #[] 3)).size)
          go_wp2_with fail
          refine (refNum_wide _ (m / 2 + m % 2) _ E2.out (by omega)).mono ?_
          rintro e w4 ⟨v4, rfl, k4, f4, b4⟩
          replace bS := bS.trans (b4.mono bS.size)
          go_wp2_with fail
          refine (HQ.out ▸ refAdd_any _ _ (m / 2) (m / 2 + m % 2) _ (k3.below b4) k4 (Nat.le_trans HP1.out (by decide)) (Nat.le_trans HP2.out (by decide))).mono ?_
          rintro e w5 ⟨v5, rfl, k5, f5, b5⟩
          replace bS := bS.trans (b5.mono bS.size)
          obtain ⟨A5, c5, rfl, _⟩ := id k5
          replace Bn := Bn.below bS
          rw [hng.out] at Bn
          replace kns := kns.below bS
          replace hVZ := hVZ.below bS
          replace hNZ := hNZ.below bS
          have Bz := BW.below bS
          have kzs := kws.below bS
          replace ky := ky.below bS
          replace bb := bb.trans (bS.mono bb.size)
          have hsz30 := bb.size
          have kz : IsR w5 (.agg #[.bool (ngB z), (.slice Aw (digs 10000 z.natAbs).length cw)]) z := ⟨_, rfl, kzs⟩
          clear BW kws k3 k4 f3 f4 f5 b3 b4 b5 bS E1 E2
          clear hneg
          cases b1
          · obtain ⟨G, hG⟩ : ∃ G, G = sg false y := ⟨_, rfl⟩
            have HG := Lib.hid hG
            clear hG
            go_upto_region 14 with (fail)
            refine flow 37 [Pd.eq (.pointer (some ⟨w2.heap.size, 0, none⟩)), Pd.eq (.bool false), Pd.eq (.int .i64 a0), Pd.eq (.bool false), Pd.eq (.bool true), Pd.eq (.bool true), Pd.eq (.pointer (some ⟨w2.heap.size, 1, none⟩)), Pd.eq (.slice An (digs 4294967296 m).length cn), Pd.eq (.slice A5 (digs 10000 m).length c5), ps .u64 (digs 4294967296 m) w5.heap.size, Pd.eq (.bool true), Pd.eq (.bool true), Pd.eq (.bool true), Pd.eq (.bool false), Pd.eq (.slice Ay (digs 4294967296 y).length cy), pz (G) w5.heap.size, Pd.eq (.bool false), Pd.eq (.bool false), Pd.any, Pd.any, Pd.any, Pd.eq (.bool false), Pd.eq (.slice Ay (digs 4294967296 y).length cy), pi (G), Pd.eq (.bool true), Pd.eq (.bool true), Pd.eq (.bool true), Pd.eq (u9), pz (z) w5.heap.size, Pd.eq (.agg #[.bool (ngB z), .slice Aw (digs 10000 (z).natAbs).length cw]), pz (z) w5.heap.size, Pd.eq (.bool true), Pd.eq (.bool true), Pd.eq (.bool true), Pd.eq (.bool true), Pd.eq (.bool true), Pd.eq (.bool true)] (by kernel_rfl) (by kernel_rfl) ?ob4 ?done4
            case ob4 =>
              refine And.intro (ob_fieldAddr rfl (wt_none rfl) (ev_far rfl rfl) (fun _ => by kernel_rfl) (fun _ => rfl)) ?_
              refine And.intro (ob_load rfl (wt_none rfl) (ev_dep (j := 0) (by kernel_rfl) rfl rfl) (fun w2 hb => run_load1 Tryd.underlying4 rfl ((Bn.drew.below hb).cell 0)) (fun _ _ => rfl)) ?_
              refine And.intro (ob_move rfl (wt_none rfl) (ev_far rfl rfl) (fun _ _ h => h)) ?_
              refine And.intro (ob_bin rfl (wt_none rfl) (ev_dep (j := 2) (by kernel_rfl) rfl rfl) (ev_const _) (fun _ _ _ hx hy => ⟨.bool false, by rw [hx, hy, bin_lss_int, HD.out], rfl⟩)) ?_
              refine And.intro (ob_bin rfl (wt_none rfl) (ev_dep (j := 1) (by kernel_rfl) rfl rfl) (ev_dep (j := 3) (by kernel_rfl) rfl rfl) (fun _ _ _ hx hy => ⟨.bool (false == false), by rw [hx, hy]; exact bin_eql_bool _ _ _ _ Tryd.underlying4 _, rfl⟩)) ?_
              refine And.intro (ob_move rfl (wt_none rfl) (ev_dep (j := 4) (by kernel_rfl) rfl rfl) (fun _ _ h => h)) ?_
              refine And.intro (ob_fieldAddr rfl (wt_dep (c := true) (b := true) (g := 5) rfl (by kernel_rfl) rfl rfl rfl (by exact fun _ _ h => h)) (ev_far rfl rfl) (fun _ => by kernel_rfl) (fun _ => rfl)) ?_
              refine And.intro (ob_load rfl (wt_dep (c := true) (b := true) (g := 5) rfl (by kernel_rfl) rfl rfl rfl (by exact fun _ _ h => h)) (ev_dep (j := 6) (by kernel_rfl) rfl rfl) (fun w2 hb => run_load1 Tryd.underlying23 rfl ((Bn.drew.below hb).cell 1)) (fun _ _ => rfl)) ?_
              refine And.intro (ob_move rfl (wt_dep (c := true) (b := true) (g := 5) rfl (by kernel_rfl) rfl rfl rfl (by exact fun _ _ h => h)) (ev_far rfl rfl) (fun _ _ h => h)) ?_
              refine And.intro (ob_call1 rfl Tryd.func30 (by kernel_rfl) (wt_dep (c := true) (b := true) (g := 5) rfl (by kernel_rfl) rfl rfl rfl (by exact fun _ _ h => h)) (ev_dep (j := 8) (by kernel_rfl) rfl rfl) (fun w2 u0 hb h0 => by obtain rfl := h0; exact (refBack_any _ m _ (k5.drew.below hb) (Nat.le_trans HM1.out (by decide)) (Nat.le_trans HM2.out (by decide))).mono fun e w3 h => RetS.pd h hb.size)) ?_
              refine And.intro (ob_call2 rfl Tryd.func29 (by kernel_rfl) (wt_dep (c := true) (b := true) (g := 5) rfl (by kernel_rfl) rfl rfl rfl (by exact fun _ _ h => h)) (ev_dep (j := 7) (by kernel_rfl) rfl rfl) (ev_dep (j := 9) (by kernel_rfl) rfl rfl) (fun w2 u0 u1 hb h0 h1 => by obtain rfl := h0; exact (same_one _ _ m _ (kns.drew.below hb) h1.1).mono fun e w3 h => RetV.pd h)) ?_
              refine And.intro (ob_pick (b := true) rfl (wt_none rfl) (ev_dep (j := 5) (by kernel_rfl) rfl rfl) (ev_dep (j := 10) (by kernel_rfl) rfl rfl) (fun _ _ h => h)) ?_
              refine And.intro (ob_move rfl (wt_none rfl) (ev_dep (j := 11) (by kernel_rfl) rfl rfl) (fun _ _ h => h)) ?_
              refine And.intro (ob_move rfl (wt_dep (c := true) (b := true) (g := 12) rfl (by kernel_rfl) rfl rfl rfl (by exact fun _ _ h => h)) (ev_far rfl rfl) (fun _ _ h => h)) ?_
              refine And.intro (ob_move rfl (wt_dep (c := true) (b := true) (g := 12) rfl (by kernel_rfl) rfl rfl rfl (by exact fun _ _ h => h)) (ev_far rfl rfl) (fun _ _ h => h)) ?_
              refine And.intro (ob_call2 rfl Tryd.func31 (by kernel_rfl) (wt_dep (c := true) (b := true) (g := 12) rfl (by kernel_rfl) rfl rfl rfl (by exact fun _ _ h => h)) (ev_dep (j := 13) (by kernel_rfl) rfl rfl) (ev_dep (j := 14) (by kernel_rfl) rfl rfl) (fun w2 u0 u1 hb h0 h1 => by obtain rfl := h0; obtain rfl := h1; exact (made_any false _ y G _ (ky.drew.below hb) (Nat.le_trans my (by decide)) HG.out).mono fun e w3 h => RetZ.pd h hb.size)) ?_
              refine And.intro (ob_move rfl (wt_dep (c := true) (b := true) (g := 12) rfl (by kernel_rfl) rfl rfl rfl (by exact fun _ _ h => h)) (ev_far rfl rfl) (fun _ _ h => h)) ?_
              refine And.intro (ob_move rfl (wt_dep (c := true) (b := true) (g := 12) rfl (by kernel_rfl) rfl rfl rfl (by exact fun _ _ h => h)) (ev_dep (j := 16) (by kernel_rfl) rfl rfl) (fun _ _ h => h)) ?_
              refine And.intro (ob_not (wt_dep (c := false) (b := true) (g := 17) rfl (by kernel_rfl) rfl rfl rfl (by exact fun _ _ h => h)) (fun _ => trivial) rfl) ?_
              refine And.intro (ob_not (wt_dep (c := false) (b := true) (g := 17) rfl (by kernel_rfl) rfl rfl rfl (by exact fun _ _ h => h)) (fun _ => trivial) rfl) ?_
              refine And.intro (ob_not (wt_dep (c := false) (b := true) (g := 17) rfl (by kernel_rfl) rfl rfl rfl (by exact fun _ _ h => h)) (fun _ => trivial) rfl) ?_
              refine And.intro (ob_pick (b := false) rfl (wt_dep (c := true) (b := true) (g := 12) rfl (by kernel_rfl) rfl rfl rfl (by exact fun _ _ h => h)) (ev_dep (j := 17) (by kernel_rfl) rfl rfl) (ev_const _) (fun _ _ h => h)) ?_
              refine And.intro (ob_move rfl (wt_dep (c := true) (b := true) (g := 12) rfl (by kernel_rfl) rfl rfl rfl (by exact fun _ _ h => h)) (ev_far rfl rfl) (fun _ _ h => h)) ?_
              refine And.intro (ob_build2b rfl (wt_dep (c := true) (b := true) (g := 12) rfl (by kernel_rfl) rfl rfl rfl (by exact fun _ _ h => h)) (ev_dep (j := 21) (by kernel_rfl) rfl rfl) (ev_dep (j := 22) (by kernel_rfl) rfl rfl) (fun w2 u v hb hu hv => by obtain rfl := hu; obtain rfl := hv; rw [HG.out]; exact ⟨_, by kernel_rfl, isZ_mk (ky.drew.below hb) (sg_abs _ _) (ngB_no y)⟩)) ?_
              refine And.intro (ob_call2 rfl Tryd.func10 (by kernel_rfl) (wt_dep (c := true) (b := true) (g := 12) rfl (by kernel_rfl) rfl rfl rfl (by exact fun _ _ h => h)) (ev_dep (j := 15) (by kernel_rfl) rfl rfl) (ev_dep (j := 23) (by kernel_rfl) rfl rfl) (fun w2 u0 u1 hb h0 h1 => by exact (zsame_eq _ _ (G) (G) _ h0.1 h1 rfl).mono fun e w3 h => RetV.pd h)) ?_
              refine And.intro (ob_pick (b := true) rfl (wt_none rfl) (ev_dep (j := 12) (by kernel_rfl) rfl rfl) (ev_dep (j := 24) (by kernel_rfl) rfl rfl) (fun _ _ h => h)) ?_
              refine And.intro (ob_move rfl (wt_none rfl) (ev_dep (j := 25) (by kernel_rfl) rfl rfl) (fun _ _ h => h)) ?_
              refine And.intro (ob_move rfl (wt_dep (c := true) (b := true) (g := 26) rfl (by kernel_rfl) rfl rfl rfl (by exact fun _ _ h => h)) (ev_far rfl rfl) (fun _ _ h => h)) ?_
              refine And.intro (ob_call1 rfl Tryd.func32 (by kernel_rfl) (wt_dep (c := true) (b := true) (g := 26) rfl (by kernel_rfl) rfl rfl rfl (by exact fun _ _ h => h)) (ev_dep (j := 27) (by kernel_rfl) rfl rfl) (fun w2 u0 hb h0 => by obtain rfl := h0; exact (HZS.out ▸ zsum_any _ pl _ (hVZ.drew.below hb) (hNZ.drew.below hb) HPS.out HSA.out).mono fun e w3 h => RetZ.pd h hb.size)) ?_
              refine And.intro (ob_load rfl (wt_dep (c := true) (b := true) (g := 26) rfl (by kernel_rfl) rfl rfl rfl (by exact fun _ _ h => h)) (ev_far rfl rfl) (fun w2 hb => run_loadAll Tryd.underlying30 rfl (by kernel_rfl) (Bz.drew.below hb)) (fun _ _ => rfl)) ?_
              refine And.intro (ob_call1 rfl Tryd.func12 (by kernel_rfl) (wt_dep (c := true) (b := true) (g := 26) rfl (by kernel_rfl) rfl rfl rfl (by exact fun _ _ h => h)) (ev_dep (j := 29) (by kernel_rfl) rfl rfl) (fun w2 u0 hb h0 => by obtain rfl := h0; exact (rback_any _ _ _ (kz.drew.below hb) (Nat.le_trans HLZ.out (by decide))).mono fun e w3 h => RetZ.pd h hb.size)) ?_
              refine And.intro (ob_call2 rfl Tryd.func10 (by kernel_rfl) (wt_dep (c := true) (b := true) (g := 26) rfl (by kernel_rfl) rfl rfl rfl (by exact fun _ _ h => h)) (ev_dep (j := 28) (by kernel_rfl) rfl rfl) (ev_dep (j := 30) (by kernel_rfl) rfl rfl) (fun w2 u0 u1 hb h0 h1 => by exact (zsame_eq _ _ (z) (z) _ h0.1 h1.1 rfl).mono fun e w3 h => RetV.pd h)) ?_
              refine And.intro (ob_pick (b := true) rfl (wt_none rfl) (ev_dep (j := 26) (by kernel_rfl) rfl rfl) (ev_dep (j := 31) (by kernel_rfl) rfl rfl) (fun _ _ h => h)) ?_
              refine And.intro (ob_move rfl (wt_none rfl) (ev_dep (j := 32) (by kernel_rfl) rfl rfl) (fun _ _ h => h)) ?_
              refine And.intro (ob_call0 rfl Tryd.func24 (by kernel_rfl) (wt_dep (c := true) (b := true) (g := 33) rfl (by kernel_rfl) rfl rfl rfl (by exact fun _ _ h => h)) (fun w2 hb => (works7_any _).mono fun e w3 h => RetV.pd h)) ?_
              refine And.intro (ob_pick (b := true) rfl (wt_none rfl) (ev_dep (j := 33) (by kernel_rfl) rfl rfl) (ev_dep (j := 34) (by kernel_rfl) rfl rfl) (fun _ _ h => h)) ?_
              refine And.intro (ob_assign rfl (wt_none rfl) (ev_dep (j := 35) (by kernel_rfl) rfl rfl) (fun _ _ h => h)) ?_
              trivial
            case done4 =>
              refine fun w31 hb31 v0 h0 v1 h1 v2 h2 v3 h3 v4 h4 v5 h5 v6 h6 v7 h7 v8 h8 v9 h9 v10 h10 v11 h11 v12 h12 v13 h13 v14 h14 v15 h15 v16 h16 v17 h17 v18 h18 v19 h19 v20 h20 v21 h21 v22 h22 v23 h23 v24 h24 v25 h25 v26 h26 v27 h27 v28 h28 v29 h29 v30 h30 v31 h31 v32 h32 v33 h33 v34 h34 v35 h35 v36 h36 b hbf => ?_
              obtain rfl := h0; obtain rfl := h1; obtain rfl := h2; obtain rfl := h3; obtain rfl := h4; obtain rfl := h5; obtain rfl := h6; obtain rfl := h7; obtain rfl := h8; obtain rfl := h10; obtain rfl := h11; obtain rfl := h12; obtain rfl := h13; obtain rfl := h14; obtain rfl := h16; obtain rfl := h17; obtain rfl := h21; obtain rfl := h22; obtain rfl := h24; obtain rfl := h25; obtain rfl := h26; obtain rfl := h27; obtain rfl := h29; obtain rfl := h31; obtain rfl := h32; obtain rfl := h33; obtain rfl := h34; obtain rfl := h35; obtain rfl := h36
              obtain ⟨q9, f9⟩ := h9
              obtain ⟨q15, f15⟩ := h15
              clear h18
              clear h19
              clear h20
              have q23 := h23
              obtain ⟨q28, f28⟩ := h28
              obtain ⟨q30, f30⟩ := h30
              simp only [Act.put, List.setIfInBounds_toArray, List.set_cons_zero, List.set_cons_succ] at hbf
              subst hbf
              replace Bz := Bz.below hb31
              replace Bn := Bn.below hb31
              replace kzs := kzs.below hb31
              replace kz := kz.below hb31
              replace hVZ := hVZ.below hb31
              replace hNZ := hNZ.below hb31
              replace ky := ky.below hb31
              replace k5 := k5.below hb31
              replace kns := kns.below hb31
              replace bb := bb.trans (hb31.mono bb.size)
              have hsz31 := bb.size
              refine any_done (by kernel_rfl) ?_
              go_wp2
              go_ret
              exact ⟨rfl, bb⟩
          · obtain ⟨G, hG⟩ : ∃ G, G = sg true y := ⟨_, rfl⟩
            have HG := Lib.hid hG
            clear hG
            go_upto_region 14 with (fail)
            refine flow 37 [Pd.eq (.pointer (some ⟨w2.heap.size, 0, none⟩)), Pd.eq (.bool false), Pd.eq (.int .i64 a0), Pd.eq (.bool false), Pd.eq (.bool true), Pd.eq (.bool true), Pd.eq (.pointer (some ⟨w2.heap.size, 1, none⟩)), Pd.eq (.slice An (digs 4294967296 m).length cn), Pd.eq (.slice A5 (digs 10000 m).length c5), ps .u64 (digs 4294967296 m) w5.heap.size, Pd.eq (.bool true), Pd.eq (.bool true), Pd.eq (.bool true), Pd.eq (.bool true), Pd.eq (.slice Ay (digs 4294967296 y).length cy), pz (G) w5.heap.size, Pd.eq (.bool true), Pd.eq (.bool true), Pd.eq (.slice Ay (digs 4294967296 y).length cy), Pd.eq (.int .i64 (((digs 4294967296 y).length : Nat) : Int)), Pd.eq (.bool (decide (0 < (((digs 4294967296 y).length : Nat) : Int)))), Pd.eq (.bool (decide (0 < (((digs 4294967296 y).length : Nat) : Int)))), Pd.eq (.slice Ay (digs 4294967296 y).length cy), pi (G), Pd.eq (.bool true), Pd.eq (.bool true), Pd.eq (.bool true), Pd.eq (u9), pz (z) w5.heap.size, Pd.eq (.agg #[.bool (ngB z), .slice Aw (digs 10000 (z).natAbs).length cw]), pz (z) w5.heap.size, Pd.eq (.bool true), Pd.eq (.bool true), Pd.eq (.bool true), Pd.eq (.bool true), Pd.eq (.bool true), Pd.eq (.bool true)] (by kernel_rfl) (by kernel_rfl) ?ob5 ?done5
            case ob5 =>
              refine And.intro (ob_fieldAddr rfl (wt_none rfl) (ev_far rfl rfl) (fun _ => by kernel_rfl) (fun _ => rfl)) ?_
              refine And.intro (ob_load rfl (wt_none rfl) (ev_dep (j := 0) (by kernel_rfl) rfl rfl) (fun w2 hb => run_load1 Tryd.underlying4 rfl ((Bn.drew.below hb).cell 0)) (fun _ _ => rfl)) ?_
              refine And.intro (ob_move rfl (wt_none rfl) (ev_far rfl rfl) (fun _ _ h => h)) ?_
              refine And.intro (ob_bin rfl (wt_none rfl) (ev_dep (j := 2) (by kernel_rfl) rfl rfl) (ev_const _) (fun _ _ _ hx hy => ⟨.bool false, by rw [hx, hy, bin_lss_int, HD.out], rfl⟩)) ?_
              refine And.intro (ob_bin rfl (wt_none rfl) (ev_dep (j := 1) (by kernel_rfl) rfl rfl) (ev_dep (j := 3) (by kernel_rfl) rfl rfl) (fun _ _ _ hx hy => ⟨.bool (false == false), by rw [hx, hy]; exact bin_eql_bool _ _ _ _ Tryd.underlying4 _, rfl⟩)) ?_
              refine And.intro (ob_move rfl (wt_none rfl) (ev_dep (j := 4) (by kernel_rfl) rfl rfl) (fun _ _ h => h)) ?_
              refine And.intro (ob_fieldAddr rfl (wt_dep (c := true) (b := true) (g := 5) rfl (by kernel_rfl) rfl rfl rfl (by exact fun _ _ h => h)) (ev_far rfl rfl) (fun _ => by kernel_rfl) (fun _ => rfl)) ?_
              refine And.intro (ob_load rfl (wt_dep (c := true) (b := true) (g := 5) rfl (by kernel_rfl) rfl rfl rfl (by exact fun _ _ h => h)) (ev_dep (j := 6) (by kernel_rfl) rfl rfl) (fun w2 hb => run_load1 Tryd.underlying23 rfl ((Bn.drew.below hb).cell 1)) (fun _ _ => rfl)) ?_
              refine And.intro (ob_move rfl (wt_dep (c := true) (b := true) (g := 5) rfl (by kernel_rfl) rfl rfl rfl (by exact fun _ _ h => h)) (ev_far rfl rfl) (fun _ _ h => h)) ?_
              refine And.intro (ob_call1 rfl Tryd.func30 (by kernel_rfl) (wt_dep (c := true) (b := true) (g := 5) rfl (by kernel_rfl) rfl rfl rfl (by exact fun _ _ h => h)) (ev_dep (j := 8) (by kernel_rfl) rfl rfl) (fun w2 u0 hb h0 => by obtain rfl := h0; exact (refBack_any _ m _ (k5.drew.below hb) (Nat.le_trans HM1.out (by decide)) (Nat.le_trans HM2.out (by decide))).mono fun e w3 h => RetS.pd h hb.size)) ?_
              refine And.intro (ob_call2 rfl Tryd.func29 (by kernel_rfl) (wt_dep (c := true) (b := true) (g := 5) rfl (by kernel_rfl) rfl rfl rfl (by exact fun _ _ h => h)) (ev_dep (j := 7) (by kernel_rfl) rfl rfl) (ev_dep (j := 9) (by kernel_rfl) rfl rfl) (fun w2 u0 u1 hb h0 h1 => by obtain rfl := h0; exact (same_one _ _ m _ (kns.drew.below hb) h1.1).mono fun e w3 h => RetV.pd h)) ?_
              refine And.intro (ob_pick (b := true) rfl (wt_none rfl) (ev_dep (j := 5) (by kernel_rfl) rfl rfl) (ev_dep (j := 10) (by kernel_rfl) rfl rfl) (fun _ _ h => h)) ?_
              refine And.intro (ob_move rfl (wt_none rfl) (ev_dep (j := 11) (by kernel_rfl) rfl rfl) (fun _ _ h => h)) ?_
              refine And.intro (ob_move rfl (wt_dep (c := true) (b := true) (g := 12) rfl (by kernel_rfl) rfl rfl rfl (by exact fun _ _ h => h)) (ev_far rfl rfl) (fun _ _ h => h)) ?_
              refine And.intro (ob_move rfl (wt_dep (c := true) (b := true) (g := 12) rfl (by kernel_rfl) rfl rfl rfl (by exact fun _ _ h => h)) (ev_far rfl rfl) (fun _ _ h => h)) ?_
              refine And.intro (ob_call2 rfl Tryd.func31 (by kernel_rfl) (wt_dep (c := true) (b := true) (g := 12) rfl (by kernel_rfl) rfl rfl rfl (by exact fun _ _ h => h)) (ev_dep (j := 13) (by kernel_rfl) rfl rfl) (ev_dep (j := 14) (by kernel_rfl) rfl rfl) (fun w2 u0 u1 hb h0 h1 => by obtain rfl := h0; obtain rfl := h1; exact (made_any true _ y G _ (ky.drew.below hb) (Nat.le_trans my (by decide)) HG.out).mono fun e w3 h => RetZ.pd h hb.size)) ?_
              refine And.intro (ob_move rfl (wt_dep (c := true) (b := true) (g := 12) rfl (by kernel_rfl) rfl rfl rfl (by exact fun _ _ h => h)) (ev_far rfl rfl) (fun _ _ h => h)) ?_
              refine And.intro (ob_move rfl (wt_dep (c := true) (b := true) (g := 12) rfl (by kernel_rfl) rfl rfl rfl (by exact fun _ _ h => h)) (ev_dep (j := 16) (by kernel_rfl) rfl rfl) (fun _ _ h => h)) ?_
              refine And.intro (ob_move rfl (wt_dep (c := true) (b := true) (g := 17) rfl (by kernel_rfl) rfl rfl rfl (by exact fun _ _ h => h)) (ev_far rfl rfl) (fun _ _ h => h)) ?_
              refine And.intro (ob_len rfl (wt_dep (c := true) (b := true) (g := 17) rfl (by kernel_rfl) rfl rfl rfl (by exact fun _ _ h => h)) (ev_dep (j := 18) (by kernel_rfl) rfl rfl) (fun _ _ hx => ⟨_, by rw [hx]; exact len_slice Tryd.underlying23 _ _ _ _, rfl⟩)) ?_
              refine And.intro (ob_bin rfl (wt_dep (c := true) (b := true) (g := 17) rfl (by kernel_rfl) rfl rfl rfl (by exact fun _ _ h => h)) (ev_dep (j := 19) (by kernel_rfl) rfl rfl) (ev_const _) (fun _ _ _ hx hy => ⟨.bool (decide (0 < (((digs 4294967296 y).length : Nat) : Int))), by rw [hx, hy]; exact bin_gtr_int _ _ _ _ _, rfl⟩)) ?_
              refine And.intro (ob_pick (b := true) rfl (wt_dep (c := true) (b := true) (g := 12) rfl (by kernel_rfl) rfl rfl rfl (by exact fun _ _ h => h)) (ev_dep (j := 17) (by kernel_rfl) rfl rfl) (ev_dep (j := 20) (by kernel_rfl) rfl rfl) (fun _ _ h => h)) ?_
              refine And.intro (ob_move rfl (wt_dep (c := true) (b := true) (g := 12) rfl (by kernel_rfl) rfl rfl rfl (by exact fun _ _ h => h)) (ev_far rfl rfl) (fun _ _ h => h)) ?_
              refine And.intro (ob_build2b rfl (wt_dep (c := true) (b := true) (g := 12) rfl (by kernel_rfl) rfl rfl rfl (by exact fun _ _ h => h)) (ev_dep (j := 21) (by kernel_rfl) rfl rfl) (ev_dep (j := 22) (by kernel_rfl) rfl rfl) (fun w2 u v hb hu hv => by obtain rfl := hu; obtain rfl := hv; rw [HG.out]; exact ⟨_, by kernel_rfl, isZ_mk (ky.drew.below hb) (sg_abs _ _) (ngB_len y)⟩)) ?_
              refine And.intro (ob_call2 rfl Tryd.func10 (by kernel_rfl) (wt_dep (c := true) (b := true) (g := 12) rfl (by kernel_rfl) rfl rfl rfl (by exact fun _ _ h => h)) (ev_dep (j := 15) (by kernel_rfl) rfl rfl) (ev_dep (j := 23) (by kernel_rfl) rfl rfl) (fun w2 u0 u1 hb h0 h1 => by exact (zsame_eq _ _ (G) (G) _ h0.1 h1 rfl).mono fun e w3 h => RetV.pd h)) ?_
              refine And.intro (ob_pick (b := true) rfl (wt_none rfl) (ev_dep (j := 12) (by kernel_rfl) rfl rfl) (ev_dep (j := 24) (by kernel_rfl) rfl rfl) (fun _ _ h => h)) ?_
              refine And.intro (ob_move rfl (wt_none rfl) (ev_dep (j := 25) (by kernel_rfl) rfl rfl) (fun _ _ h => h)) ?_
              refine And.intro (ob_move rfl (wt_dep (c := true) (b := true) (g := 26) rfl (by kernel_rfl) rfl rfl rfl (by exact fun _ _ h => h)) (ev_far rfl rfl) (fun _ _ h => h)) ?_
              refine And.intro (ob_call1 rfl Tryd.func32 (by kernel_rfl) (wt_dep (c := true) (b := true) (g := 26) rfl (by kernel_rfl) rfl rfl rfl (by exact fun _ _ h => h)) (ev_dep (j := 27) (by kernel_rfl) rfl rfl) (fun w2 u0 hb h0 => by obtain rfl := h0; exact (HZS.out ▸ zsum_any _ pl _ (hVZ.drew.below hb) (hNZ.drew.below hb) HPS.out HSA.out).mono fun e w3 h => RetZ.pd h hb.size)) ?_
              refine And.intro (ob_load rfl (wt_dep (c := true) (b := true) (g := 26) rfl (by kernel_rfl) rfl rfl rfl (by exact fun _ _ h => h)) (ev_far rfl rfl) (fun w2 hb => run_loadAll Tryd.underlying30 rfl (by kernel_rfl) (Bz.drew.below hb)) (fun _ _ => rfl)) ?_
              refine And.intro (ob_call1 rfl Tryd.func12 (by kernel_rfl) (wt_dep (c := true) (b := true) (g := 26) rfl (by kernel_rfl) rfl rfl rfl (by exact fun _ _ h => h)) (ev_dep (j := 29) (by kernel_rfl) rfl rfl) (fun w2 u0 hb h0 => by obtain rfl := h0; exact (rback_any _ _ _ (kz.drew.below hb) (Nat.le_trans HLZ.out (by decide))).mono fun e w3 h => RetZ.pd h hb.size)) ?_
              refine And.intro (ob_call2 rfl Tryd.func10 (by kernel_rfl) (wt_dep (c := true) (b := true) (g := 26) rfl (by kernel_rfl) rfl rfl rfl (by exact fun _ _ h => h)) (ev_dep (j := 28) (by kernel_rfl) rfl rfl) (ev_dep (j := 30) (by kernel_rfl) rfl rfl) (fun w2 u0 u1 hb h0 h1 => by exact (zsame_eq _ _ (z) (z) _ h0.1 h1.1 rfl).mono fun e w3 h => RetV.pd h)) ?_
              refine And.intro (ob_pick (b := true) rfl (wt_none rfl) (ev_dep (j := 26) (by kernel_rfl) rfl rfl) (ev_dep (j := 31) (by kernel_rfl) rfl rfl) (fun _ _ h => h)) ?_
              refine And.intro (ob_move rfl (wt_none rfl) (ev_dep (j := 32) (by kernel_rfl) rfl rfl) (fun _ _ h => h)) ?_
              refine And.intro (ob_call0 rfl Tryd.func24 (by kernel_rfl) (wt_dep (c := true) (b := true) (g := 33) rfl (by kernel_rfl) rfl rfl rfl (by exact fun _ _ h => h)) (fun w2 hb => (works7_any _).mono fun e w3 h => RetV.pd h)) ?_
              refine And.intro (ob_pick (b := true) rfl (wt_none rfl) (ev_dep (j := 33) (by kernel_rfl) rfl rfl) (ev_dep (j := 34) (by kernel_rfl) rfl rfl) (fun _ _ h => h)) ?_
              refine And.intro (ob_assign rfl (wt_none rfl) (ev_dep (j := 35) (by kernel_rfl) rfl rfl) (fun _ _ h => h)) ?_
              trivial
            case done5 =>
              refine fun w31 hb31 v0 h0 v1 h1 v2 h2 v3 h3 v4 h4 v5 h5 v6 h6 v7 h7 v8 h8 v9 h9 v10 h10 v11 h11 v12 h12 v13 h13 v14 h14 v15 h15 v16 h16 v17 h17 v18 h18 v19 h19 v20 h20 v21 h21 v22 h22 v23 h23 v24 h24 v25 h25 v26 h26 v27 h27 v28 h28 v29 h29 v30 h30 v31 h31 v32 h32 v33 h33 v34 h34 v35 h35 v36 h36 b hbf => ?_
              obtain rfl := h0; obtain rfl := h1; obtain rfl := h2; obtain rfl := h3; obtain rfl := h4; obtain rfl := h5; obtain rfl := h6; obtain rfl := h7; obtain rfl := h8; obtain rfl := h10; obtain rfl := h11; obtain rfl := h12; obtain rfl := h13; obtain rfl := h14; obtain rfl := h16; obtain rfl := h17; obtain rfl := h18; obtain rfl := h19; obtain rfl := h20; obtain rfl := h21; obtain rfl := h22; obtain rfl := h24; obtain rfl := h25; obtain rfl := h26; obtain rfl := h27; obtain rfl := h29; obtain rfl := h31; obtain rfl := h32; obtain rfl := h33; obtain rfl := h34; obtain rfl := h35; obtain rfl := h36
              obtain ⟨q9, f9⟩ := h9
              obtain ⟨q15, f15⟩ := h15
              have q23 := h23
              obtain ⟨q28, f28⟩ := h28
              obtain ⟨q30, f30⟩ := h30
              simp only [Act.put, List.setIfInBounds_toArray, List.set_cons_zero, List.set_cons_succ] at hbf
              subst hbf
              replace Bz := Bz.below hb31
              replace Bn := Bn.below hb31
              replace kzs := kzs.below hb31
              replace kz := kz.below hb31
              replace hVZ := hVZ.below hb31
              replace hNZ := hNZ.below hb31
              replace ky := ky.below hb31
              replace k5 := k5.below hb31
              replace kns := kns.below hb31
              replace bb := bb.trans (hb31.mono bb.size)
              have hsz31 := bb.size
              refine any_done (by kernel_rfl) ?_
              go_wp2
              go_ret
              exact ⟨rfl, bb⟩

set_option maxRecDepth 100000 in
theorem lifted (os : Os) (started : os.Started) (H : Type) (enc : TypeId × Value → H) :
    ReturnsInHanded {} Tryd.checked os 4 .any (fun w args => (Rows.wholeMakesSpec.pre enc Tryd.prog Tryd.f4 Rows.wholeMakesRow.domain false w args ∧ laidMetH Tryd.prog Rows.wholeMakesRow.laid w) ∧ sizedMet enc Tryd.prog Tryd.f4 (OpenSpec.ofChange Rows.wholeMakesSpec) false w args)
      (Rows.wholeMakesSpec.post enc Tryd.prog Tryd.f4 false true false false) := by
  refine returnsInHanded_of_change_and (C := Tryd.checked) (X := fun w _ => laidMetH Tryd.prog Rows.wholeMakesRow.laid w) (fun _ _ _ hh h => h.of_heap hh) own started (by kernel_rfl) Tryd.func4
    (ChangeSpec.witness_shaped (enc := enc) (C := Tryd.checked) (os := os) (X := fun w _ => laidMetH Tryd.prog Rows.wholeMakesRow.laid w) false (World.laidAll Tryd.prog os Rows.wholeMakesRow.laid) #[.int .i64 0, .bool false, .slice none 0 0, .slice none 0 0] 8 (World.laidAll_os _ _ _)
      (World.shaped_of_ZipB (by kernel_rfl) (by kernel_rfl)) (by kernel_rfl) (by kernel_rfl) (by kernel_rfl)
      (by rw [MakeChecks.laidMetH_plain _ _ _ (by kernel_rfl)]; exact laidMet_laidAll _ (by kernel_rfl) (by kernel_rfl))) ?_
  intro W base args ds gs before hval0 hW hcnd _ hL _
  have hval : ∀ (j : Nat) t v, Tryd.f4.params[j]? = some t → args[j]? = some v → Value.okWide Tryd.prog W .any base t v := hval0
  have hW' := hW
  obtain ⟨p, q, hA0, hV, rfl, hfz, hnd⟩ := hW
  have hA : DataW.TrodAll enc Tryd.prog W 0 (fun _ => true) true Tryd.f4.params.toList args.toList ds p := hA0
  rw [Tryd.params4] at hA hval
  obtain ⟨v0, vs0, d0, ds0, p0, q0, hargs, rfl, rfl, t0, r0⟩ := trodAll_cons hA
  obtain ⟨v1, vs1, d1, ds1, p1, q1, rfl, rfl, rfl, t1, r1⟩ := trodAll_cons r0
  obtain ⟨v2, vs2, d2, ds2, p2, q2, rfl, rfl, rfl, t2, r2⟩ := trodAll_cons r1
  obtain ⟨v3, vs3, d3, ds3, p3, q3, rfl, rfl, rfl, t3, r3⟩ := trodAll_cons r2
  obtain ⟨rfl, rfl, rfl⟩ := trodAll_nil r3
  obtain rfl : args = #[v0, v1, v2, v3] := by cases args; simp_all
  obtain ⟨rfl, rfl⟩ := trodVars_none hV
  obtain ⟨a0, rfl, hd0, hp0, wf0⟩ := open_int Tryd.underlying3 (hval 0 3 v0 rfl rfl) t0
  obtain ⟨b1, rfl, hd1, hp1⟩ := open_bool Tryd.underlying4 (hval 1 4 v1 rfl rfl) t1
  obtain ⟨l2, hs2, hu2⟩ := arg_nat Tryd.underlying23 Tryd.underlying74 cells_u (hval 2 23 v2 rfl rfl) t2
  have hs3 := arg_zs Tryd.underlying43 Tryd.underlying25 (by kernel_rfl) (by kernel_rfl) Tryd.underlying4 Tryd.underlying23 Tryd.underlying74 cells_u (hval 3 43 v3 rfl rfl) t3
  clear hA0 hval0
  simp only [List.append_nil] at hW'
  have hlt0 : ∀ x ∈ p0, x.block < W.heap.size := fun x hx => hW'.lt x (List.mem_append_left _ hx)
  have hlt1 : ∀ x ∈ p1, x.block < W.heap.size := fun x hx => hW'.lt x (List.mem_append_right _ (List.mem_append_left _ hx))
  have hlt2 : ∀ x ∈ p2, x.block < W.heap.size := fun x hx => hW'.lt x (List.mem_append_right _ (List.mem_append_right _ (List.mem_append_left _ hx)))
  have hlt3 : ∀ x ∈ p3, x.block < W.heap.size := fun x hx => hW'.lt x (List.mem_append_right _ (List.mem_append_right _ (List.mem_append_right _ (hx))))
  refine (walk a0 b1 v2 l2 v3 W wf0  hs2 hu2 hs3).mono fun e W' ⟨he, hb⟩ => ?_
  subst he
  have s0 := Below.trod laidOut (by kernel_rfl) (of_decide_eq_true (by kernel_rfl)) t0 hb hlt0
  have s1 := Below.trod laidOut (by kernel_rfl) (of_decide_eq_true (by kernel_rfl)) t1 hb hlt1
  have s2 := Below.trod laidOut (by kernel_rfl) (of_decide_eq_true (by kernel_rfl)) t2 hb hlt2
  have s3 := Below.trod laidOut (by kernel_rfl) (of_decide_eq_true (by kernel_rfl)) t3 hb hlt3
  exact ⟨_, rfl, _, _, _, [] ++ [], _, [], hW', trodAll_cons_mk (shut_bool Tryd.underlying4 _) trodAll_mk0, trodAll_cons_mk s0 (trodAll_cons_mk s1 (trodAll_cons_mk s2 (trodAll_cons_mk s3 (trodAll_mk0)))), rfl, hb.frame _, fun h => by cases h⟩

theorem over : Rows.wholeMakesRow.holds Tryd.pinned (OpenSpec.ofChange Rows.wholeMakesSpec) :=
  OpenClaim.holds_of_wide 4 Tryd.f4 rfl rfl rfl rfl rfl rfl rfl ⟨rfl, rfl, rfl, rfl, rfl⟩ rfl rfl rfl rfl rfl (by kernel_rfl) Tryd.func4 (by kernel_rfl)
    (of_decide_eq_true (by kernel_rfl)) (by unfold Func.isWrapper; first | (rw [if_pos (by decide +kernel)]; kernel_rfl) | (rw [if_neg (by decide +kernel)]; exact ⟨rfl, rfl⟩))
    (fun os started H enc _ => lifted os started H enc)

/-- The statement: the card. -/
theorem proved : Rows.WholeMakesCardSaid :=
  Claim7.holds_tied_plain_at .later [] [.data, .pinned] true _ false over (fun _ h => by cases h) (by kernel_rfl) (fun _ h => by cases h) wholeMakes_row_tie rfl ⟨rfl, rfl⟩ (by kernel_rfl) rfl
    (fun f fn hf hfn => by
      obtain rfl : f = 4 := Option.some.inj ((show Tryd.prog.funcNamed Rows.wholeMakesRow.func = some 4 by kernel_rfl).symm.trans hf) |>.symm
      obtain rfl : fn = Tryd.f4 := (Option.some.inj (Tryd.func4.symm.trans hfn)).symm
      exact ⟨by kernel_rfl, fun j t ht => by
        rw [Tryd.params4] at ht
        have hm : t ∈ [3, 4, 23, 43] := by simpa using Array.mem_of_getElem? ht
        have hall : ([3, 4, 23, 43].all fun u => !Tryd.prog.wantsStandIn u) = true := by kernel_rfl
        exact (show Tryd.prog.wantsStandIn t = false by simpa using List.all_eq_true.1 hall t hm)⟩)
    (by kernel_rfl)
end Go.Proofs.YtcmjbkgcknimlaaDoor.wholeMakes
