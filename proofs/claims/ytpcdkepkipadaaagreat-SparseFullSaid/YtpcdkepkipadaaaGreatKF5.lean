/- Package matrix: copied, bare, dots, Column. Condition: as each says.
Rows of the call's own that grow within a table of its own: how what was there stays. Condition: as each says.
Package matrix: product, Ident, Add, Apply, Turn. Condition: as each says.
Package sparse: Full: a table of rows that the call makes, filled in the order of a map. Condition: as each says.
Package sparse: From. Condition: as each says.
An argument as a slice of slices of fractions. Condition: it can be read as data.
An append to a row of slices of the call's own: how what was there stays. Condition: as it says.
Few: two rows of fractions of the call's own out of an argument; tables of such rows. Condition: as each says.
Few of a table: two tables of the call's own out of an argument. Condition: as it says. -/
import Derived.Test.YtpcdkepkipadaaaGreatKF4
import Derived.Deep.RegionHeld3
namespace Go.Proofs.YtpcdkepkipadaaaGreat.rat
open Go.RowKit Go.Proofs.YtpcdkepkipadaaaGreat.num Go.Proofs.YtpcdkepkipadaaaGreat.mem Go.Proofs.YtpcdkepkipadaaaGreat.nat Go.Proofs.YtpcdkepkipadaaaGreat.txt Go.Proofs.YtpcdkepkipadaaaGreat.str Go.Proofs.YtpcdkepkipadaaaGreat.flow Go.Proofs.YtpcdkepkipadaaaGreat.whl
set_option linter.unusedVariables false
set_option linter.unusedSimpArgs false
/-- A table of rows that have no places yet, made by the call. -/
def RetBar (n : Nat) (w : World) (e : Ending) (w' : World) : Prop := ∃ g, e = .returned (.slice (some ⟨g, 0, none⟩) n n) ∧ TabB w' g 53 (List.replicate n (.slice none 0 0)) ∧ w.heap.size ≤ g ∧ Below w.heap.size w w'
theorem RetBar.pd {n : Nat} {w : World} {e : Ending} {w' : World} {B : Nat} (h : RetBar n w e w') (hB : B ≤ w.heap.size) : RetPd (pbar n 53 B) w e w' := by
  obtain ⟨g, h1, h2, h3, h4⟩ := h
  exact ⟨_, h1, ⟨g, rfl, h2, Nat.le_trans hB h3⟩, h4⟩
set_option maxHeartbeats 1600000 in
set_option maxRecDepth 100000 in
theorem mcopied_any (a0 : Value) (x : Rat) (w : World) (h0 : IsQ w a0 x) (hl : lenQ x 100000) :
    Calls Tryz.prog 64 #[a0] w (RetQ x w) := by
  obtain ⟨u0, t0, rfl, s0, r0⟩ := h0
  obtain ⟨A0, c0, rfl, _⟩ := id s0
  obtain ⟨D0, e0, rfl, _⟩ := id r0
  go_enter Tryz.func64, Tryz.ntmps64
  go_upto_region 1 with (fail)
  obtain ⟨wx, hwx, bb, B0, BR0, hsz⟩ := vars2 w 36 36 #[.bool (ngB (x).num), .slice A0 (digs 4294967296 (x).num.natAbs).length c0, .slice D0 (digs 4294967296 (x).den).length e0] #[.bool false, .slice none 0 0, .slice none 0 0]
  rw [hwx]
  clear hwx
  have k0s := s0.below bb
  have k0d := r0.below bb
  have k0z : IsZ wx (.agg #[.bool (ngB (x).num), .slice A0 (digs 4294967296 (x).num.natAbs).length c0]) (x).num := ⟨_, rfl, k0s⟩
  have k0 : IsQ wx (.agg #[.bool (ngB (x).num), .slice A0 (digs 4294967296 (x).num.natAbs).length c0, .slice D0 (digs 4294967296 (x).den).length e0]) (x) := ⟨_, _, rfl, k0s, k0d⟩
  have hsz0 := bb.size
  have sB := bb.size
  refine flow 12 [Pd.eq (.pointer (some ⟨w.heap.size, 0, none⟩)), Pd.eq (.pointer (some ⟨w.heap.size, 0, none⟩)), Pd.eq (.bool (ngB (x).num)), Pd.eq (.pointer (some ⟨w.heap.size, 0, none⟩)), Pd.eq (.pointer (some ⟨w.heap.size, 1, none⟩)), Pd.eq (.slice A0 (digs 4294967296 (x).num.natAbs).length c0), ps .u64 (digs 4294967296 (x).num.natAbs) wx.heap.size, pz ((x).num) wx.heap.size, Pd.eq (.pointer (some ⟨w.heap.size, 2, none⟩)), Pd.eq (.slice D0 (digs 4294967296 (x).den).length e0), ps .u64 (digs 4294967296 (x).den) wx.heap.size, pq (x) wx.heap.size] (by kernel_rfl) (by kernel_rfl) ?ob1 ?done1
  case ob1 =>
    refine And.intro (ob_fieldAddr rfl (wt_none rfl) (ev_far rfl rfl) (fun _ => by kernel_rfl) (fun _ => rfl)) ?_
    refine And.intro (ob_fieldAddr rfl (wt_none rfl) (ev_dep (j := 0) (by kernel_rfl) rfl rfl) (fun _ => by kernel_rfl) (fun _ => rfl)) ?_
    refine And.intro (ob_load rfl (wt_none rfl) (ev_dep (j := 1) (by kernel_rfl) rfl rfl) (fun w2 hb => run_load1 Tryz.underlying4 rfl ((B0.drew.below hb).cell 0)) (fun _ _ => rfl)) ?_
    refine And.intro (ob_fieldAddr rfl (wt_none rfl) (ev_far rfl rfl) (fun _ => by kernel_rfl) (fun _ => rfl)) ?_
    refine And.intro (ob_fieldAddr rfl (wt_none rfl) (ev_dep (j := 3) (by kernel_rfl) rfl rfl) (fun _ => by kernel_rfl) (fun _ => rfl)) ?_
    refine And.intro (ob_load rfl (wt_none rfl) (ev_dep (j := 4) (by kernel_rfl) rfl rfl) (fun w2 hb => run_load1 Tryz.underlying32 rfl ((B0.drew.below hb).cell 1)) (fun _ _ => rfl)) ?_
    refine And.intro (ob_call1 rfl Tryz.func79 (by kernel_rfl) (wt_none rfl) (ev_dep (j := 5) (by kernel_rfl) rfl rfl) (fun w2 u0 hb h0 => by obtain rfl := h0; exact (clone_any _ _ _ (k0s.drew.below hb) (Nat.le_trans hl.1 (by decide))).mono fun e w3 h => RetS.pd h hb.size)) ?_
    refine And.intro (ob_build2b rfl (wt_none rfl) (ev_dep (j := 2) (by kernel_rfl) rfl rfl) (ev_dep (j := 6) (by kernel_rfl) rfl rfl) (fun w2 u v hb hu hv => by obtain rfl := hu; obtain ⟨A7, c7, rfl, _⟩ := id hv.1; exact ⟨.agg #[.bool (ngB (x).num), .slice A7 (digs 4294967296 (x).num.natAbs).length c7], by kernel_rfl, ⟨_, rfl, hv.1⟩, freshZ_mk hv.2⟩)) ?_
    refine And.intro (ob_fieldAddr rfl (wt_none rfl) (ev_far rfl rfl) (fun _ => by kernel_rfl) (fun _ => rfl)) ?_
    refine And.intro (ob_load rfl (wt_none rfl) (ev_dep (j := 8) (by kernel_rfl) rfl rfl) (fun w2 hb => run_load1 Tryz.underlying32 rfl ((B0.drew.below hb).cell 2)) (fun _ _ => rfl)) ?_
    refine And.intro (ob_call1 rfl Tryz.func79 (by kernel_rfl) (wt_none rfl) (ev_dep (j := 9) (by kernel_rfl) rfl rfl) (fun w2 u0 hb h0 => by obtain rfl := h0; exact (clone_any _ _ _ (k0d.drew.below hb) (Nat.le_trans hl.2 (by decide))).mono fun e w3 h => RetS.pd h hb.size)) ?_
    refine And.intro (ob_build2b rfl (wt_none rfl) (ev_dep (j := 7) (by kernel_rfl) rfl rfl) (ev_dep (j := 10) (by kernel_rfl) rfl rfl) (fun w2 u v hb hu hv => by obtain ⟨u7, rfl, hu7⟩ := hu.1; obtain ⟨A7, c7, rfl, _⟩ := id hu7; obtain ⟨A8, c8, rfl, _⟩ := id hv.1; exact ⟨.agg #[.bool (ngB (x).num), .slice A7 (digs 4294967296 (x).num.natAbs).length c7, .slice A8 (digs 4294967296 (x).den).length c8], by kernel_rfl, ⟨⟨_, _, rfl, hu7, hv.1⟩, freshQ_mk (hu.2 _ _ rfl) hv.2⟩⟩)) ?_
    trivial
  case done1 =>
    refine fun w11 hb11 v0 h0 v1 h1 v2 h2 v3 h3 v4 h4 v5 h5 v6 h6 v7 h7 v8 h8 v9 h9 v10 h10 v11 h11 b hbf => ?_
    obtain rfl := h0; obtain rfl := h1; obtain rfl := h2; obtain rfl := h3; obtain rfl := h4; obtain rfl := h5; obtain rfl := h8; obtain rfl := h9
    obtain ⟨q6, f6⟩ := h6
    obtain ⟨q7, f7⟩ := h7
    obtain ⟨q10, f10⟩ := h10
    obtain ⟨q11, f11⟩ := h11
    simp only [Act.put, List.setIfInBounds_toArray, List.set_cons_zero, List.set_cons_succ] at hbf
    subst hbf
    replace B0 := B0.below hb11
    replace k0s := k0s.below hb11
    replace k0d := k0d.below hb11
    replace k0z := k0z.below hb11
    replace k0 := k0.below hb11
    replace BR0 := BR0.below hb11
    replace bb := bb.trans (hb11.mono bb.size)
    have hsz11 := bb.size
    have s_6 := sB
    have s_7 := sB
    have s_10 := sB
    have s_11 := sB
    obtain ⟨u11, t11, rfl, q11, d11⟩ := q11
    obtain ⟨A9, c9, rfl, _⟩ := id q11
    obtain ⟨D9, e9, rfl, _⟩ := id d11
    refine any_store (i := 12) (by kernel_rfl) rfl rfl rfl rfl rfl rfl (cells := [.bool (ngB (x).num), .slice A9 (digs 4294967296 (x).num.natAbs).length c9, .slice D9 (digs 4294967296 (x).den).length e9]) rfl BR0 rfl (by kernel_rfl) (one3 rfl rfl rfl) fun w9 hg9 B9 => ?_
    have k9 := off q11 BR0 no_ints3 hg9
    have d9 := off d11 BR0 no_ints3 hg9
    have f9 := f11.mono (show w.heap.size ≤ _ from s_11)
    have bb9 := bb.trans ((Below.refl _ _).grown hg9 bb.size (fun g hg => by injection hg with hg; omega))
    obtain ⟨C0, C1, C2, _, _, _⟩ := three B9
    refine any_done (by kernel_rfl) ?_
    go_wp2
    exact bodyPost_ret (v := .agg #[.bool (ngB (x).num), .slice A9 (digs 4294967296 (x).num.natAbs).length c9, .slice D9 (digs 4294967296 (x).den).length e9]) (by simp [results, Tryz.results64, go_sem, C0, C1, C2]) rfl ⟨_, rfl, ⟨_, _, rfl, k9, d9⟩, f9, bb9⟩
set_option maxHeartbeats 1600000 in
set_option maxRecDepth 100000 in
theorem mbare_any (n : Int) (d : Nat) (w : World) (hn : n = (d : Int)) (hd : d ≤ 1000000) :
    Calls Tryz.prog 63 #[.int .i64 n] w (RetBar d w) := by
  have bb : Below w.heap.size w w := Below.refl _ _
  subst hn
  go_enter Tryz.func63, Tryz.ntmps63
  go_upto_region 1 with (fail)
  have hsz0 := bb.size
  have sB := bb.size
  refine flowp 3 [Pd.eq (.int .i64 (d : Int)), pbar d 53 w.heap.size, pbar d 53 w.heap.size] (by kernel_rfl) ?ob2 ?done2
  case ob2 =>
    refine And.intro (ob_move rfl (wt_none rfl) (ev_far rfl rfl) (fun _ _ h => h)) ?_
    refine And.intro (ob_make_v d rfl rfl (ev_dep (j := 0) (by kernel_rfl) rfl rfl) (ev_dep (j := 0) (by kernel_rfl) rfl rfl) Tryz.underlying52 info_vec (by omega) (fun _ _ h => h)) ?_
    refine And.intro (ob_assign rfl (wt_none rfl) (ev_dep (j := 1) (by kernel_rfl) rfl rfl) (fun _ _ h => h)) ?_
    trivial
  case done2 =>
    refine fun w11 hb11 v0 h0 v1 h1 v2 h2 b hbf => ?_
    obtain rfl := h0
    have q1 := h1
    have q2 := h2
    simp only [Act.put, List.setIfInBounds_toArray, List.set_cons_zero, List.set_cons_succ] at hbf
    subst hbf
    replace bb := bb.trans (hb11.mono bb.size)
    have hsz11 := bb.size
    refine ops_done ?_
    obtain ⟨g, rfl, TB, hg⟩ := q2
    go_wp2
    go_ret
    exact ⟨g, rfl, TB, hg, bb⟩
set_option maxHeartbeats 3200000 in
set_option maxRecDepth 100000 in
theorem mdots_any (a0 a1 : Value) (t : List (List Rat)) (v : List Rat) (m n : Nat) (w : World) (h0 : SlT .u64 4294967296 w a0 t) (h1 : SlF .u64 4294967296 w a1 v) (he : ∀ r ∈ t, r.length = v.length) (hl : t.length ≤ 1000 ∧ v.length ≤ 1000 ∧ lenT t m ∧ (∀ y ∈ v, lenQ y n) ∧ (m + n + 1) * v.length + 1 ≤ 900) :
    Calls Tryz.prog 60 #[a0, a1] w (RetSl (dotsq t v) w) := by
  have bb : Below w.heap.size w w := Below.refl _ _
  have sl1 := h1
  obtain ⟨A1, c1, rfl, hc1, hm1⟩ := h1.shape
  unfold maxLen at hm1
  have st0 := h0
  obtain ⟨A0, c0, rfl, hc0, hm0⟩ := h0.shape
  unfold maxLen at hm0
  have HL := Lib.hid hl
  have HE := Lib.hid he
  have ht2 : t.length ≤ 1000 := hl.1
  have HRL : Hid ((dotsq t v).length = t.length) := dotsq_len t v
  clear hl he
  go_enter Tryz.func60, Tryz.ntmps60
  go_upto_region 1 with (fail)
  have hsz0 := bb.size
  have sB := bb.size
  refine flowp 4 [Pd.eq (.slice A0 t.length c0), Pd.eq (.int .i64 ((t.length : Nat) : Int)), pro t.length [] w.heap.size, pro t.length [] w.heap.size] (by kernel_rfl) ?ob3 ?done3
  case ob3 =>
    refine And.intro (ob_move rfl (wt_none rfl) (ev_far rfl rfl) (fun _ _ h => h)) ?_
    refine And.intro (ob_len rfl (wt_none rfl) (ev_dep (j := 0) (by kernel_rfl) rfl rfl) (fun _ _ hx => ⟨_, by rw [hx]; exact len_slice Tryz.underlying52 _ _ _ _, rfl⟩)) ?_
    refine And.intro (ob_make_q t.length rfl rfl (ev_dep (j := 1) (by kernel_rfl) rfl rfl) (ev_dep (j := 1) (by kernel_rfl) rfl rfl) Tryz.underlying53 info_rat (by omega) (fun _ _ h => h)) ?_
    refine And.intro (ob_assign rfl (wt_none rfl) (ev_dep (j := 2) (by kernel_rfl) rfl rfl) (fun _ _ h => h)) ?_
    trivial
  case done3 =>
    refine fun w11 hb11 v0 h0 v1 h1 v2 h2 v3 h3 b hbf => ?_
    obtain rfl := h0; obtain rfl := h1
    have q2 := h2
    have q3 := h3
    simp only [Act.put, List.setIfInBounds_toArray, List.set_cons_zero, List.set_cons_succ] at hbf
    subst hbf
    replace bb := bb.trans (hb11.mono bb.size)
    have hsz11 := bb.size
    refine ops_done ?_
    obtain ⟨g, rfl, RN, hg⟩ := q3
    have hgw : w.heap.size ≤ g := by omega
    go_wp2
    go_loopw [13] (fun v13 wr => ∃ k : Nat, k ≤ t.length ∧ RowN wr g t.length ((dotsq t v).take k) ∧ Below w.heap.size w wr ∧ v13 = .int .i64 (k : Int)) (fun v13 _ => t.length - (intOf v13).toNat)
    case atStart => exact ⟨0, by omega, RN, bb, rfl⟩
    case round =>
      obtain ⟨k, hk, hR, hbw, rfl⟩ := hrel
      clear RN bb
      have RN := hR
      have bb := hbw
      clear hR hbw
      have hszr := bb.size
      have hgl := RN.lt
      by_cases hlt : k < t.length
      · have hnt : t ≠ [] := List.length_pos_iff.1 (by omega)
        obtain ⟨x, hx⟩ : ∃ x, t[k]? = some x := ⟨_, List.getElem?_eq_getElem hlt⟩
        have hxm := List.mem_of_getElem? hx
        have HXE : Hid (x.length = v.length) := HE.out x hxm
        have HXB : Hid (x.length ≤ 1000 ∧ (∀ y ∈ x, lenQ y m) ∧ (∀ y ∈ v, lenQ y n) ∧ (m + n + 1) * x.length + 1 ≤ 900) := ⟨by rw [HXE.out]; exact HL.out.2.1, HL.out.2.2.1 x hxm, HL.out.2.2.2.1, by rw [HXE.out]; exact HL.out.2.2.2.2⟩
        have HTK : Hid ((dotsq t v).take (k + 1) = (dotsq t v).take k ++ [dotq x v]) := take_snoc (dotsq_at hx)
        have HLK : Hid (k = ((dotsq t v).take k).length) := by show _ = _; rw [List.length_take, HRL.out]; omega
        obtain ⟨ad0, rfl⟩ := st0.place hnt
        obtain ⟨Arx, crx, hix, ewx, srx⟩ := st0.at2 hx
        clear hx hxm
        have ecx := (bb.cell (World.block_lt_of_cell? w _ ewx)).trans ewx
        have sB := bb.size
        go_upto_region 4 with (fail)
        refine flowp 5 [Pd.eq (.int .i64 (k : Int)), Pd.eq (.pointer (some (ad0.add k))), Pd.eq (.slice Arx x.length crx), Pd.eq (.int .i64 (k : Int)), Pd.eq (.slice Arx x.length crx)] (by kernel_rfl) ?ob4 ?done4
        case ob4 =>
          refine And.intro (ob_move rfl (wt_none rfl) (ev_far rfl rfl) (fun _ _ h => h)) ?_
          refine And.intro (ob_indexAddr rfl (wt_none rfl) (ev_far rfl rfl) (ev_far rfl rfl) (fun _ _ _ hx hy => ⟨_, by rw [hx, hy]; exact index1_any (k := k) Tryz.underlying52 (by kernel_rfl) ad0 hlt _, rfl⟩)) ?_
          refine And.intro (ob_load rfl (wt_none rfl) (ev_dep (j := 1) (by kernel_rfl) rfl rfl) (fun w2 hb => run_load1 Tryz.underlying53 rfl ((hb.cell (World.block_lt_of_cell? wr _ ecx)).trans ecx)) (fun _ _ => rfl)) ?_
          refine And.intro (ob_assign rfl (wt_none rfl) (ev_dep (j := 0) (by kernel_rfl) rfl rfl) (fun _ _ h => h)) ?_
          refine And.intro (ob_assign rfl (wt_none rfl) (ev_dep (j := 2) (by kernel_rfl) rfl rfl) (fun _ _ h => h)) ?_
          trivial
        case done4 =>
          refine fun w13 hb13 v0 h0 v1 h1 v2 h2 v3 h3 v4 h4 b hbf => ?_
          obtain rfl := h0; obtain rfl := h1; obtain rfl := h2; obtain rfl := h3; obtain rfl := h4
          simp only [Act.put, List.setIfInBounds_toArray, List.set_cons_zero, List.set_cons_succ] at hbf
          subst hbf
          replace RN := RN.below hb13
          replace bb := bb.trans (hb13.mono bb.size)
          have hsz13 := bb.size
          refine ops_done ?_
          clear ecx
          have sB := bb.size
          go_upto_region 5 with (fail)
          refine flowp 9 [Pd.eq (.slice (some ⟨g, 0, none⟩) t.length t.length), Pd.eq (.int .i64 (k : Int)), Pd.eq (.slice Arx x.length crx), Pd.eq (.slice A1 v.length c1), pqe ((dotq x v)) 0, pqe ((dotq x v)) 0, pqn ((dotq x v)), Pd.eq (.int .i64 0), Pd.eq (.pointer (some ⟨g, 0 + k * 3, none⟩))] (by kernel_rfl) ?ob5 ?done5
          case ob5 =>
            refine And.intro (ob_move rfl (wt_none rfl) (ev_far rfl rfl) (fun _ _ h => h)) ?_
            refine And.intro (ob_move rfl (wt_none rfl) (ev_far rfl rfl) (fun _ _ h => h)) ?_
            refine And.intro (ob_move rfl (wt_none rfl) (ev_far rfl rfl) (fun _ _ h => h)) ?_
            refine And.intro (ob_move rfl (wt_none rfl) (ev_far rfl rfl) (fun _ _ h => h)) ?_
            refine And.intro (ob_call2 rfl Tryz.func99 (by kernel_rfl) (wt_none rfl) (ev_dep (j := 2) (by kernel_rfl) rfl rfl) (ev_dep (j := 3) (by kernel_rfl) rfl rfl) (fun w2 u0 u1 hb h0 h1 => by obtain rfl := h0; obtain rfl := h1; exact (fdot_gen _ _ x v m n _ ((srx.below bb).below hb) ((sl1.below bb).below hb) HXE.out HXB.out).mono fun e w3 h => RetQE.pd h)) ?_
            refine And.intro (ob_move rfl (wt_none rfl) (ev_dep (j := 4) (by kernel_rfl) rfl rfl) (fun _ _ h => h)) ?_
            refine And.intro (ob_extract rfl (wt_none rfl) (ev_dep (j := 5) (by kernel_rfl) rfl rfl) (fun w2 u hu => by obtain ⟨v, rfl, q1⟩ := hu; exact ⟨v, rfl, q1⟩)) ?_
            refine And.intro (ob_extract rfl (wt_none rfl) (ev_dep (j := 5) (by kernel_rfl) rfl rfl) (fun w2 u hu => by obtain ⟨v, rfl, q1⟩ := hu; exact ⟨_, rfl, rfl⟩)) ?_
            refine And.intro (ob_indexAddr rfl (wt_none rfl) (ev_dep (j := 0) (by kernel_rfl) rfl rfl) (ev_dep (j := 1) (by kernel_rfl) rfl rfl) (fun _ _ _ hx hy => ⟨_, by rw [hx, hy]; exact index3 (k := k) Tryz.underlying53 (by kernel_rfl) hlt _, rfl⟩)) ?_
            trivial
          case done5 =>
            refine fun w14 hb14 v0 h0 v1 h1 v2 h2 v3 h3 v4 h4 v5 h5 v6 h6 v7 h7 v8 h8 b hbf => ?_
            obtain rfl := h0; obtain rfl := h1; obtain rfl := h2; obtain rfl := h3; obtain rfl := h7; obtain rfl := h8
            clear h4
            clear h5
            have q6 := h6
            simp only [Act.put, List.setIfInBounds_toArray, List.set_cons_zero, List.set_cons_succ] at hbf
            subst hbf
            replace RN := RN.below hb14
            replace bb := bb.trans (hb14.mono bb.size)
            have hsz14 := bb.size
            obtain ⟨u6, t6, rfl, q6, d6⟩ := q6
            obtain ⟨A9, c9, rfl, _⟩ := id q6
            obtain ⟨D9, e9, rfl, _⟩ := id d6
            refine ops_store_q (j := 9) rfl rfl rfl rfl (g := g) (i := k) (q := (dotq x v)) rfl rfl (by kernel_rfl) RN hlt q6 d6 fun w15 hg15 hP15 => ?_
            replace bb := bb.trans ((Below.refl _ _).grown hg15 bb.size (fun g hg => by injection hg with hg; omega))
            have hsz15 := bb.size
            replace RN := hP15.1 HLK.out
            clear hP15
            refine ops_done ?_
            rw [← HTK.out] at RN
            have hsk : t.length - (k + 1) < t.length - k := by omega
            go_wp2
            go_roundw
            case rel => exact ⟨k + 1, by omega, RN, bb, by go_num⟩
            case measure => simp [intOf]; omega
      · rw [List.take_of_length_le (by rw [HRL.out]; omega)] at RN
        have hS := RN.sl HRL.out (by omega)
        clear RN
        go_wp2
        go_ret
        exact ⟨_, rfl, hS, bb⟩
set_option maxHeartbeats 3200000 in
set_option maxRecDepth 100000 in
theorem mcolumn_any (a0 : Value) (v : List Rat) (w : World) (h0 : SlF .u64 4294967296 w a0 v) (hl : v.length ≤ 1000 ∧ ∀ x ∈ v, lenQ x 100000) :
    Calls Tryz.prog 28 #[a0] w (RetSlT .u64 4294967296 (colT v) w) := by
  have bb : Below w.heap.size w w := Below.refl _ _
  have sl0 := h0
  obtain ⟨A0, c0, rfl, hc0, hm0⟩ := h0.shape
  unfold maxLen at hm0
  have HL := Lib.hid hl
  have hv2 : v.length ≤ 1000 := hl.1
  have HTL : Hid ((colT v).length = v.length) := colT_len v
  clear hl
  go_enter Tryz.func28, Tryz.ntmps28
  go_upto_region 1 with (fail)
  have hsz0 := bb.size
  have sB := bb.size
  refine flowp 4 [Pd.eq (.slice A0 v.length c0), Pd.eq (.int .i64 ((v.length : Nat) : Int)), pbar v.length 53 w.heap.size, pbar v.length 53 w.heap.size] (by kernel_rfl) ?ob6 ?done6
  case ob6 =>
    refine And.intro (ob_move rfl (wt_none rfl) (ev_far rfl rfl) (fun _ _ h => h)) ?_
    refine And.intro (ob_len rfl (wt_none rfl) (ev_dep (j := 0) (by kernel_rfl) rfl rfl) (fun _ _ hx => ⟨_, by rw [hx]; exact len_slice Tryz.underlying53 _ _ _ _, rfl⟩)) ?_
    refine And.intro (ob_call1 rfl Tryz.func63 (by kernel_rfl) (wt_none rfl) (ev_dep (j := 1) (by kernel_rfl) rfl rfl) (fun w2 u0 hb h0 => by obtain rfl := h0; exact (mbare_any _ (v.length) _ rfl (by omega)).mono fun e w3 h => RetBar.pd h hb.size)) ?_
    refine And.intro (ob_assign rfl (wt_none rfl) (ev_dep (j := 2) (by kernel_rfl) rfl rfl) (fun _ _ h => h)) ?_
    trivial
  case done6 =>
    refine fun w11 hb11 v0 h0 v1 h1 v2 h2 v3 h3 b hbf => ?_
    obtain rfl := h0; obtain rfl := h1
    have q2 := h2
    have q3 := h3
    simp only [Act.put, List.setIfInBounds_toArray, List.set_cons_zero, List.set_cons_succ] at hbf
    subst hbf
    replace bb := bb.trans (hb11.mono bb.size)
    have hsz11 := bb.size
    refine ops_done ?_
    obtain ⟨g, rfl, TB, hg⟩ := q3
    have hgw : w.heap.size ≤ g := by omega
    have TS0 : TabS .u64 4294967296 w11 g 53 (List.replicate v.length (.slice none 0 0)) (partq (colT v) 0 v.length) := by rw [partq_zero]; exact TB.bare
    clear TB
    go_wp2
    go_loopw [11] (fun v11 wr => ∃ (k : Nat) (us : List Value), k ≤ v.length ∧ TabS .u64 4294967296 wr g 53 us (partq (colT v) k v.length) ∧ Below w.heap.size w wr ∧ v11 = .int .i64 (k : Int)) (fun v11 _ => v.length - (intOf v11).toNat)
    case atStart => exact ⟨0, _, by omega, TS0, bb, rfl⟩
    case round =>
      obtain ⟨k, us, hk, TS, hbw, rfl⟩ := hrel
      clear TS0 bb
      have bb := hbw
      clear hbw
      have hszr := bb.size
      have hgl := TS.lt
      by_cases hlt : k < v.length
      · obtain ⟨x, hq0_⟩ : ∃ x, v[k]? = some x := ⟨_, List.getElem?_eq_getElem hlt⟩
        obtain ⟨g0_, o0_, ue0, te0, hA0_, _, e00, e01, e02, es0, ed0⟩ := (sl0.below bb).at_ hq0_
        subst hA0_
        have HQ0 := Lib.hid hq0_
        clear hq0_
        obtain ⟨Ae0, ce0, rfl, _⟩ := id es0
        obtain ⟨De0, ee0, rfl, _⟩ := id ed0
        have ke0 : IsQ wr (.agg #[.bool (ngB x.num), .slice Ae0 (digs 4294967296 x.num.natAbs).length ce0, .slice De0 (digs 4294967296 x.den).length ee0]) x := ⟨_, _, rfl, es0, ed0⟩
        have lx : lenQ x 100000 := HL.out.2 x (List.mem_of_getElem? HQ0.out)
        have HAT : Hid ((colT v)[k]? = some [x]) := colT_at HQ0.out
        have TS_ := TS
        clear TS
        have sB := bb.size
        go_upto_region 4 with (fail)
        refine flowp 5 [Pd.eq (.int .i64 (k : Int)), Pd.eq (.pointer (some ⟨g0_, o0_ + k * 3, none⟩)), Pd.eq (.agg #[.bool (ngB x.num), .slice Ae0 (digs 4294967296 x.num.natAbs).length ce0, .slice De0 (digs 4294967296 x.den).length ee0]), pn 36 #[.bool false, .slice none 0 0, .slice none 0 0] wr.heap.size, Pd.eq (.int .i64 (k : Int))] (by kernel_rfl) ?ob7 ?done7
        case ob7 =>
          refine And.intro (ob_move rfl (wt_none rfl) (ev_far rfl rfl) (fun _ _ h => h)) ?_
          refine And.intro (ob_indexAddr rfl (wt_none rfl) (ev_far rfl rfl) (ev_far rfl rfl) (fun _ _ _ hx hy => ⟨_, by rw [hx, hy]; exact index3 Tryz.underlying53 (by kernel_rfl) hlt _, rfl⟩)) ?_
          refine And.intro (ob_load rfl (wt_none rfl) (ev_dep (j := 1) (by kernel_rfl) rfl rfl) (fun w2 hb => load3 Tryz.underlying36 rfl (by kernel_rfl) ((hb.cell (World.block_lt_of_cell? wr _ e00)).trans e00) ((hb.cell (World.block_lt_of_cell? wr _ e01)).trans e01) ((hb.cell (World.block_lt_of_cell? wr _ e02)).trans e02)) (fun _ _ => rfl)) ?_
          refine And.intro (ob_alloc (z := .agg #[.bool false, .slice none 0 0, .slice none 0 0]) rfl rfl (fun _ => by kernel_rfl) (fun _ _ hB h => ⟨_, rfl, hB, h⟩)) ?_
          refine And.intro (ob_assign rfl (wt_none rfl) (ev_dep (j := 0) (by kernel_rfl) rfl rfl) (fun _ _ h => h)) ?_
          trivial
        case done7 =>
          refine fun w13 hb13 v0 h0 v1 h1 v2 h2 v3 h3 d3 v4 h4 b hbf => ?_
          obtain rfl := h0; obtain rfl := h1; obtain rfl := h2; obtain rfl := h4
          obtain ⟨g7_3, rfl, hg3, B3⟩ := h3
          simp only [Act.put, List.setIfInBounds_toArray, List.set_cons_zero, List.set_cons_succ] at hbf
          subst hbf
          replace es0 := es0.below hb13
          replace ed0 := ed0.below hb13
          replace bb := bb.trans (hb13.mono bb.size)
          have hsz13 := bb.size
          have BA5 := B3
          have q2 := es0
          have d2 := ed0
          refine ops_store (i := 5) rfl rfl rfl rfl rfl rfl (cells := [.bool (ngB (x).num), .slice Ae0 (digs 4294967296 (x).num.natAbs).length ce0, .slice De0 (digs 4294967296 (x).den).length ee0]) rfl BA5 rfl (by kernel_rfl) (one3 rfl rfl rfl) fun w14 hg14 BN14 => ?_
          replace q2 := off q2 BA5 no_ints3 hg14
          replace d2 := off d2 BA5 no_ints3 hg14
          replace bb := bb.trans ((Below.refl _ _).grown hg14 bb.size (fun g hg => by injection hg with hg; omega))
          have hsz14 := bb.size
          have Be0 : Blk w14 (g7_3) _ _ := BN14
          have ke0s := q2
          have ke0d := d2
          have ke0z : IsZ w14 (.agg #[.bool (ngB (x).num), .slice Ae0 (digs 4294967296 (x).num.natAbs).length ce0]) ((x).num) := ⟨_, rfl, ke0s⟩
          have ke0 : IsQ w14 (.agg #[.bool (ngB (x).num), .slice Ae0 (digs 4294967296 (x).num.natAbs).length ce0, .slice De0 (digs 4294967296 (x).den).length ee0]) (x) := ⟨_, _, rfl, ke0s, ke0d⟩
          refine ops_done ?_
          have TS := TS_.below (hb13.trans ((Below.refl _ _).grown hg14 hb13.size (fun g hg => by injection hg with hg; omega)))
          clear TS_
          have sB := bb.size
          go_upto_region 5 with (fail)
          refine flowp 6 [Pd.eq (.slice (some ⟨g, 0, none⟩) v.length v.length), Pd.eq (.int .i64 (k : Int)), Pd.eq (.agg #[.bool (ngB (x).num), .slice Ae0 (digs 4294967296 (x).num.natAbs).length ce0, .slice De0 (digs 4294967296 (x).den).length ee0]), pq (x) w14.heap.size, psk .u64 4294967296 ([x]), Pd.eq (.pointer (some ⟨g, k, none⟩))] (by kernel_rfl) ?ob8 ?done8
          case ob8 =>
            refine And.intro (ob_move rfl (wt_none rfl) (ev_far rfl rfl) (fun _ _ h => h)) ?_
            refine And.intro (ob_move rfl (wt_none rfl) (ev_far rfl rfl) (fun _ _ h => h)) ?_
            refine And.intro (ob_load rfl (wt_none rfl) (ev_far rfl rfl) (fun w2 hb => run_loadAll Tryz.underlying36 rfl (by kernel_rfl) (Be0.below hb)) (fun _ _ => rfl)) ?_
            refine And.intro (ob_call1 rfl Tryz.func64 (by kernel_rfl) (wt_none rfl) (ev_dep (j := 2) (by kernel_rfl) rfl rfl) (fun w2 u0 hb h0 => by obtain rfl := h0; exact (mcopied_any _ x _ (ke0.below hb) lx).mono fun e w3 h => RetQ.pd h hb.size)) ?_
            refine And.intro (ob_lit1 rfl (wt_none rfl) (ev_dep (j := 3) (by kernel_rfl) rfl rfl) Tryz.underlying53 info_rat (fun _ _ _ h => h.1) (fun _ _ h => h)) ?_
            refine And.intro (ob_indexAddr rfl (wt_none rfl) (ev_dep (j := 0) (by kernel_rfl) rfl rfl) (ev_dep (j := 1) (by kernel_rfl) rfl rfl) (fun _ _ _ hx hy => ⟨_, by rw [hx, hy]; exact index_tab (k := k) Tryz.underlying52 (by kernel_rfl) hlt _, rfl⟩)) ?_
            trivial
          case done8 =>
            refine fun w15 hb15 v0 h0 v1 h1 v2 h2 v3 h3 v4 h4 v5 h5 b hbf => ?_
            obtain rfl := h0; obtain rfl := h1; obtain rfl := h2; obtain rfl := h5
            obtain ⟨q3, f3⟩ := h3
            have q4 := h4
            simp only [Act.put, List.setIfInBounds_toArray, List.set_cons_zero, List.set_cons_succ] at hbf
            subst hbf
            replace Be0 := Be0.below hb15
            replace ke0s := ke0s.below hb15
            replace ke0d := ke0d.below hb15
            replace ke0z := ke0z.below hb15
            replace ke0 := ke0.below hb15
            replace TS := TS.below hb15
            replace bb := bb.trans (hb15.mono bb.size)
            have hsz15 := bb.size
            have s_3 := sB
            obtain ⟨A9, c9, rfl, _, _⟩ := q4.shape
            have hul : us.length = v.length := by rw [TS.2.1]; unfold partq; rw [List.length_append, List.length_take, List.length_replicate, HTL.out]; omega
            refine ops_store_at (i := 6) (v := .slice A9 ([x]).length c9) rfl rfl rfl rfl rfl rfl rfl rfl TS.1.1 (by rw [List.size_toArray, hul]; exact hlt) (by kernel_rfl) fun w16 hg16 hB16 => ?_
            have TS2 := TS.put hg16 hB16 q4
            rw [partq_set HTL.out HAT.out] at TS2
            replace bb := bb.trans ((Below.refl _ _).grown hg16 bb.size (fun g hg => by injection hg with hg; omega))
            clear TS
            refine ops_done ?_
            have hsk : v.length - (k + 1) < v.length - k := by omega
            go_wp2
            go_roundw
            case rel => exact ⟨k + 1, _, by omega, TS2, bb, by go_num⟩
            case measure => simp [intOf]; omega
      · obtain rfl : k = v.length := by omega
        rw [partq_full HTL.out] at TS
        have hS := TS.slT HTL.out (by omega)
        clear TS
        go_wp2
        go_ret
        exact ⟨_, rfl, hS, bb⟩
end Go.Proofs.YtpcdkepkipadaaaGreat.rat
namespace Go.Proofs.YtpcdkepkipadaaaGreat.flow
open Go.RowKit Go.Proofs.YtpcdkepkipadaaaGreat.num Go.Proofs.YtpcdkepkipadaaaGreat.mem Go.Proofs.YtpcdkepkipadaaaGreat.whl Go.Proofs.YtpcdkepkipadaaaGreat.rat
set_option linter.unusedVariables false
section
variable {P : Program} {Q : Exit → Act → World → Prop} {ops : Array Oper} {o : Oper} {i : Nat}
end
end Go.Proofs.YtpcdkepkipadaaaGreat.flow
namespace Go.Proofs.YtpcdkepkipadaaaGreat.rat
open Go.RowKit Go.Proofs.YtpcdkepkipadaaaGreat.num Go.Proofs.YtpcdkepkipadaaaGreat.mem Go.Proofs.YtpcdkepkipadaaaGreat.nat Go.Proofs.YtpcdkepkipadaaaGreat.txt Go.Proofs.YtpcdkepkipadaaaGreat.str Go.Proofs.YtpcdkepkipadaaaGreat.flow Go.Proofs.YtpcdkepkipadaaaGreat.whl
set_option linter.unusedVariables false
theorem Grew.trans {w w1 w2 : World} {v v1 v2 : Value} (h : Grew w w1 v v1) (k : Grew w1 w2 v1 v2) : Grew w w2 v v2 := by
  obtain ⟨a1, a2, a3⟩ := h
  obtain ⟨b1, b2, b3⟩ := k
  refine ⟨fun q u l hu hf => ?_, ⟨b2.os.trans a2.os, b2.tape.trans a2.tape, b2.output.trans a2.output, Nat.le_trans a2.size b2.size, fun i hi hne => ?_⟩, fun g hg hne => b3 g (Nat.lt_of_lt_of_le hg a2.size) (a3 g hg hne)⟩
  · have x := a1 q u l hu hf
    exact b1 q u l x.1 x.2
  · rw [b2.block i (Nat.lt_of_lt_of_le hi a2.size) (fun e => a3 i hi (fun e2 => hne e2.symm) e.symm), a2.block i hi hne]
theorem NewL.below {B B' : Nat} {ps : List Elt} (h : NewL B ps) (hb : B' ≤ B) : NewL B' ps := fun p hp => ⟨(h p hp).1.mono hb, (h p hp).2.mono hb⟩
theorem NewL.far {B : Nat} {ps : List Elt} (h : NewL B ps) {v : Value} (hv : ∀ g, v.ownBlock = some g → g < B) : ∀ p ∈ ps, Far v p.2.1 ∧ Far v p.2.2 := fun p hp => ⟨(h p hp).1.far hv, (h p hp).2.far hv⟩
/-- The table itself stays where one of its rows grows. -/
theorem TabO.mid {k : IntKind} {B : Nat} {T : TypeId} {w w1 : World} {base g n c i : Nat} {TS : TypeId} {us : List Value} {pss : List (List Elt)} {u u' : Value} {ps : List Elt} (hT : T ≠ TS) (h : TabO k B T w base TS (.slice (some ⟨g, 0, none⟩) n c) us pss) (hu : us[i]? = some u) (hps : pss[i]? = some ps) (hgr : Grew w w1 u u') : RowV w1 base TS (.slice (some ⟨g, 0, none⟩) n c) us :=
  World.ownsRow.kept (row := u.ownBlock) h.row hgr.2.1 (.inr fun e => (h.own i u ps hu hps).notRow h.row hT g e.symm rfl)
set_option linter.unusedSimpArgs false
theorem heap_setCell {w : World} {g i : Nat} {u : Value} {cs : Array Value} {e : TypeId} (h : w.heap[g]? = some (.cells cs e (0, 0))) : (w.setCell ⟨g, i, none⟩ u).heap[g]? = some (.cells (cs.setIfInBounds i u) e (0, 0)) := by
  simp [World.setCell, Array.getElem?_modify, h]
theorem TabS.stored {k : IntKind} {B : Nat} {w : World} {g : Nat} {TS : TypeId} {us : List Value} {t : List (List Rat)} (h : TabS k B w g TS us t) (i : Nat) {u : Value} {r : List Rat} (hu : SlF k B w u r) : TabS k B (w.setCell ⟨g, i, none⟩ u) g TS (us.set i u) (t.set i r) := h.put (grown_set w g i u) (heap_setCell h.1.1) hu
theorem TabS.cellAt {k : IntKind} {B : Nat} {w : World} {g : Nat} {TS : TypeId} {us : List Value} {t : List (List Rat)} (h : TabS k B w g TS us t) {i : Nat} (hi : i < t.length) : ∃ u, w.cell? ⟨g, i, none⟩ = some u := by
  have hu : us[i]? = some (us[i]'(by rw [h.2.1]; exact hi)) := List.getElem?_eq_getElem _
  have := h.1.cell hu
  rw [addr_zero] at this
  exact ⟨_, this⟩
theorem TabS.frozenAt {k : IntKind} {B : Nat} {w : World} {g : Nat} {TS : TypeId} {us : List Value} {t : List (List Rat)} (h : TabS k B w g TS us t) (i : Nat) : w.frozen? ⟨g, i, none⟩ = false := h.1.1.frozen i
set_option maxHeartbeats 3200000 in
set_option maxRecDepth 100000 in
theorem mapply_any (a0 a1 : Value) (t : List (List Rat)) (v : List Rat) (m n : Nat) (w : World) (h0 : SlT .u64 4294967296 w a0 t) (h1 : SlF .u64 4294967296 w a1 v) (hl : lenT t m ∧ (∀ y ∈ v, lenQ y n) ∧ (m + n + 1) * v.length + 1 ≤ 900) :
    Calls Tryz.prog 23 #[a0, a1] w (fun e w' => ((mayq t ∧ wideq t = v.length) ∧ RetQLE (dotsq t v) 0 w e w') ∨ (¬ (mayq t ∧ wideq t = v.length) ∧ RetQLE [] 8 w e w')) := by
  have st0 := h0
  obtain ⟨A0, c0, rfl, hc0, hm0⟩ := h0.shape
  obtain ⟨A1, c1, rfl, hc1, hm1⟩ := h1.shape
  have HL := Lib.hid hl
  clear hl
  go_enter Tryz.func23, Tryz.ntmps23
  go_wp2_with fail
  refine (msize_any _ t _ st0).mono ?_
  rintro e w2 ⟨rfl, b2⟩
  have st2 := st0.below b2
  by_cases h : mayq t
  · have HM := Lib.hid h
    go_wp2_with fail
    refine (mmay_any _ t true _ st2 (decide_eq_true HM.out).symm).mono ?_
    rintro e w3 ⟨rfl, b3⟩
    have b23 := b2.trans (b3.mono b2.size)
    clear h st2 b3
    by_cases hw : wideq t = v.length
    · have hne : ¬ ((v.length : Nat) : Int) ≠ ((wideq t : Nat) : Int) := by rw [hw]; exact fun h => h rfl
      have hneb : (((v.length : Nat) : Int) != ((wideq t : Nat) : Int)) = false := by rw [bne_eq_false_iff_eq, hw]
      have HW := Lib.hid hw
      have st3 := st0.below b23
      have sv3 := h1.below b23
      clear hw
      go_wp2_with fail
      refine (mdots_any _ _ t v m n _ st3 sv3 (fun r hr => by rw [HM.out.2.2 r hr, HW.out]) ⟨Nat.le_trans HM.out.1 (by decide), by have := HM.out.2.1; rw [HW.out] at this; omega, HL.out.1, HL.out.2.1, HL.out.2.2⟩).mono ?_
      rintro e w4 ⟨V, rfl, sV, b4⟩
      go_wp2
      go_ret2
      exact .inl ⟨⟨HM.out, HW.out⟩, _, rfl, by rw [if_pos rfl]; exact sV, b23.trans (b4.mono b23.size)⟩
    · have hne : ((v.length : Nat) : Int) ≠ ((wideq t : Nat) : Int) := by omega
      have hneb : (((v.length : Nat) : Int) != ((wideq t : Nat) : Int)) = true := by rw [bne_iff_ne]; exact hne
      have HW := Lib.hid hw
      clear hw
      go_wp2
      go_ret2
      exact .inr ⟨fun h => HW.out h.2, _, rfl, by rw [if_neg (by decide)]; exact slF_nil _ _ _, b23⟩
  · have HM := Lib.hid h
    go_wp2_with fail
    refine (mmay_any _ t false _ st2 (decide_eq_false HM.out).symm).mono ?_
    rintro e w3 ⟨rfl, b3⟩
    have b23 := b2.trans (b3.mono b2.size)
    clear h
    go_wp2
    go_ret2
    exact .inr ⟨fun h => HM.out h.1, _, rfl, by rw [if_neg (by decide)]; exact slF_nil _ _ _, b23⟩
def rowv (C g : Nat) : Value := .slice (some ⟨g, 0, none⟩) C C
def rowvs (C n : Nat) (gs : List Nat) : List Value := gs.map (rowv C) ++ List.replicate n (.slice none 0 0)
theorem rowvs_len (C n : Nat) (gs : List Nat) : (rowvs C n gs).length = gs.length + n := by simp [rowvs]
theorem rowvs_at {C n i g : Nat} {gs : List Nat} (h : gs[i]? = some g) : (rowvs C n gs)[i]? = some (rowv C g) := by
  unfold rowvs
  rw [List.getElem?_append_left (by rw [List.length_map]; exact (List.getElem?_eq_some_iff.1 h).1), List.getElem?_map, h]; rfl
theorem rowvs_snoc (C n : Nat) (gs : List Nat) (g : Nat) : (rowvs C (n + 1) gs).set gs.length (rowv C g) = rowvs C n (gs ++ [g]) := by
  unfold rowvs
  rw [List.set_append_right _ _ (by rw [List.length_map]; exact Nat.le_refl _), List.length_map, Nat.sub_self, List.replicate_succ, List.set_cons_zero, List.map_append]
  simp
/-- A table of rows that the call made, each in a block of its own; n rows are still to be laid. -/
structure TabZ (w : World) (gT C base n : Nat) (gs : List Nat) (T : List (List Rat)) : Prop where
  blk : TabB w gT 53 (rowvs C n gs)
  len : gs.length = T.length
  row : ∀ (i g : Nat) (r : List Rat), gs[i]? = some g → T[i]? = some r → r.length = C ∧ RowN w g C r ∧ base ≤ g
  apart : ∀ (i j g : Nat), gs[i]? = some g → gs[j]? = some g → i = j
theorem TabZ.below {w w' : World} {gT C base n : Nat} {gs : List Nat} {T : List (List Rat)} (h : TabZ w gT C base n gs T) (hb : Below w.heap.size w w') : TabZ w' gT C base n gs T :=
  ⟨h.blk.below hb, h.len, fun i g r h1 h2 => ⟨(h.row i g r h1 h2).1, (h.row i g r h1 h2).2.1.below hb, (h.row i g r h1 h2).2.2⟩, h.apart⟩
theorem RowN.notTab {w : World} {g n gT : Nat} {qs : List Rat} {us : List Value} (h : RowN w g n qs) (ht : TabB w gT 53 us) : g ≠ gT := fun e => by
  obtain ⟨ps, _, _, h3, _⟩ := h
  have h4 := ht.1
  unfold Blk at h3 h4
  rw [e, h4] at h3
  injection h3 with h3
  injection h3 with _ h3
  exact absurd h3 (by decide)
theorem RowN.offT {w w' : World} {g n gT : Nat} {qs : List Rat} {us : List Value} (h : RowN w g n qs) (ht : TabB w gT 53 us) (hg : w.grownBy w' (some gT)) : RowN w' g n qs :=
  h.offb ht.1 (fun c hc n e => by
    obtain ⟨A, m, d, e1⟩ := ht.2 c (List.mem_toArray.1 hc)
    rw [e1] at e
    cases e) hg (h.notTab ht)
theorem TabZ.rowAt {w : World} {gT C base n i : Nat} {gs : List Nat} {T : List (List Rat)} {r : List Rat} (h : TabZ w gT C base n gs T) (hr : T[i]? = some r) : ∃ g, gs[i]? = some g ∧ r.length = C ∧ RowN w g C r ∧ base ≤ g := by
  have h1 : gs[i]? = some (gs[i]'(by rw [h.len]; exact (List.getElem?_eq_some_iff.1 hr).1)) := List.getElem?_eq_getElem _
  exact ⟨_, h1, h.row i _ r h1 hr⟩
/-- A row more. -/
theorem TabZ.add {w : World} {gT C base n g : Nat} {gs : List Nat} {T : List (List Rat)} {r : List Rat} (h : TabZ w gT C base (n + 1) gs T) (hr : RowN w g C r) (hl : r.length = C) (hb : base ≤ g) (hn : ∀ i : Nat, gs[i]? ≠ some g) : TabZ (w.setCell ⟨gT, gs.length, none⟩ (rowv C g)) gT C base n (gs ++ [g]) (T ++ [r]) := by
  have hg := grown_set w gT gs.length (rowv C g)
  refine ⟨?_, by rw [List.length_append, List.length_append, h.len]; rfl, fun i g' r' h1 h2 => ?_, fun i j g' h1 h2 => ?_⟩
  · rw [← rowvs_snoc]
    exact h.blk.put (heap_setCell h.blk.1) ⟨_, _, _, rfl⟩
  · by_cases hi : i < gs.length
    · rw [List.getElem?_append_left hi] at h1
      rw [List.getElem?_append_left (by rw [← h.len]; exact hi)] at h2
      obtain ⟨k1, k2, k3⟩ := h.row i g' r' h1 h2
      exact ⟨k1, k2.offT h.blk hg, k3⟩
    · have hi2 := (List.getElem?_eq_some_iff.1 h1).1
      rw [List.length_append, List.length_singleton] at hi2
      obtain rfl : i = gs.length := by omega
      rw [List.getElem?_concat_length] at h1
      rw [h.len, List.getElem?_concat_length] at h2
      injection h1 with h1
      injection h2 with h2
      subst h1; subst h2
      exact ⟨hl, hr.offT h.blk hg, hb⟩
  · have key : ∀ i, (gs ++ [g])[i]? = some g' → (i < gs.length ∧ gs[i]? = some g') ∨ (i = gs.length ∧ g = g') := fun i h1 => by
      by_cases hi : i < gs.length
      · rw [List.getElem?_append_left hi] at h1
        exact .inl ⟨hi, h1⟩
      · have hi2 := (List.getElem?_eq_some_iff.1 h1).1
        rw [List.length_append, List.length_singleton] at hi2
        obtain rfl : i = gs.length := by omega
        rw [List.getElem?_concat_length] at h1
        injection h1 with h1
        exact .inr ⟨rfl, h1⟩
    rcases key i h1 with ⟨_, k1⟩ | ⟨e1, k1⟩ <;> rcases key j h2 with ⟨_, k2⟩ | ⟨e2, k2⟩
    · exact h.apart i j g' k1 k2
    · subst k2; exact absurd k1 (hn i)
    · subst k1; exact absurd k2 (hn j)
    · omega
/-- One place is set. -/
theorem TabZ.put {w w' : World} {gT C base i j g : Nat} {gs : List Nat} {T : List (List Rat)} {r : List Rat} {q : Rat} (h : TabZ w gT C base 0 gs T) (hg : gs[i]? = some g) (hr : T[i]? = some r) (hgr : w.grownBy w' (some g)) (hrow : RowN w' g C (r.set j q)) : TabZ w' gT C base 0 gs (setq T i j q) := by
  obtain ⟨k1, k2, k3⟩ := h.row i g r hg hr
  have hne := k2.notTab h.blk
  rw [setq_at q hr]
  refine ⟨h.blk.grown hgr (fun e => hne (by injection e)), by rw [List.length_set]; exact h.len, fun i' g' r' h1 h2 => ?_, h.apart⟩
  rcases mem_set_at h2 with ⟨rfl, rfl⟩ | ⟨hne', h2⟩
  · rw [hg] at h1
    injection h1 with h1
    subst h1
    exact ⟨by rw [List.length_set]; exact k1, hrow, k3⟩
  · obtain ⟨m1, m2, m3⟩ := h.row i' g' r' h1 h2
    exact ⟨m1, m2.away k2 hgr (fun e => hne' (h.apart i i' g hg (by rw [h1, e]))), m3⟩
theorem TabZ.slT {w : World} {gT C base R : Nat} {gs : List Nat} {T : List (List Rat)} (h : TabZ w gT C base 0 gs T) (hR : T.length = R) (hm : R ≤ 1000000000) (hc : C ≤ 1000000000) : SlT .u64 4294967296 w (.slice (some ⟨gT, 0, none⟩) R R) T := by
  have hT : TabS .u64 4294967296 w gT 53 (rowvs C 0 gs) T := ⟨h.blk, by rw [rowvs_len, h.len]; rfl, fun i u r hu hr => by
    obtain ⟨g, h1, h2, h3, _⟩ := h.rowAt hr
    rw [rowvs_at h1] at hu
    injection hu with hu
    subst hu
    exact h3.sl h2 hc⟩
  exact hT.slT hR hm
/-- What is no longer to come has been laid. -/
def PartT (T T' : List (List Rat)) (left : Lit → Bool) : Prop := ∀ (i j : Nat) (q : Rat), cellq T i j = some q → cellq T' i j = some (if left (klit i j) = true then 0 else q)
theorem partT_start {D : DataW Value} {w : World} {T : List (List Rat)} {R C : Nat} (h : MapD D w T) (hs : shp T R C) : PartT T (zerosT R C) (Maps.has D) := fun i j q hq => by
  obtain ⟨hi, hj⟩ := cellq_lt hs hq
  obtain ⟨z, hz⟩ := cellq_ex (shp_zeros R C) hi hj
  rw [hz, cellq_zeros hz]
  by_cases h0 : q = 0
  · rw [h0]; simp
  · rw [(h.hit i j q hq h0).1]; simp
theorem partT_step {T T' : List (List Rat)} {left : Lit → Bool} {R C i j : Nat} {p : Rat} (h : PartT T T' left) (hs : shp T R C) (hs' : shp T' R C) (hR : R ≤ 200) (hC : C ≤ 200) (hp : cellq T i j = some p) : PartT T (setq T' i j p) (fun z => left z && !z.sameKey (klit i j)) := fun i' j' q hq => by
  obtain ⟨hi, hj⟩ := cellq_lt hs hp
  obtain ⟨hi', hj'⟩ := cellq_lt hs hq
  rw [cellq_setq hs' hi hj]
  by_cases e : i = i' ∧ j = j'
  · obtain ⟨rfl, rfl⟩ := e
    rw [if_pos ⟨rfl, rfl⟩]
    rw [hp] at hq
    injection hq with hq
    have hsk := WideAt.sameKey_self (keyK.key (keyOf_k (natI64 hi hR) (natI64 hj hC)))
    simp [hsk, hq]
  · rw [if_neg e, h i' j' q hq]
    have hk := klit_ne hR hC hi hj (natI64 hi' hR) (natI64 hj' hC) (fun e' => e ⟨by omega, by omega⟩)
    simp [Maps.sameKey_ne hk]
theorem partT_end {T T' : List (List Rat)} {left : Lit → Bool} {R C : Nat} (h : PartT T T' left) (hs : shp T R C) (hs' : shp T' R C) (hl : ∀ k, left k = false) : T' = T :=
  shp_ext hs' hs fun i j hi hj => by
    obtain ⟨q, hq⟩ := cellq_ex hs hi hj
    rw [h i j q hq, hl, hq]; simp
set_option maxRecDepth 100000 in
/-- The step of a range over such a map. -/
theorem wpList_next_q {w w0 : World} {ops : Array Oper} {rest : List Oper} {o : Oper} {a : Act} {Q : Exit → Act → World → Prop} (hg : o.guard = none) (it : Operand) (hop : o.op = Op.next it false) {b r n : Nat} {D : DataW Value} {T : List (List Rat)} {left : Lit → Bool} {cnt : Nat}
    (hit : a.eval it = .pointer (some ⟨r, 0, none⟩)) (h : w.ranges Tryz.prog 93 selfR b r n D left cnt) (hD : MapD D w0 T)
    (hDone : (∀ kl, left kl = false) → wpList Tryz.prog ops Q rest (a.put o.dst (.tuple #[.bool false])) w)
    (hMore : ∀ (i j : Nat) (p : Elt) (w' : World) (cnt' : Nat), cellq T i j = some p.1 → IsE .u64 4294967296 w0 p → w'.ranges Tryz.prog 93 selfR b r n D (fun z => left z && !z.sameKey (klit i j)) cnt' → cnt' < cnt → w.grownBy w' (some r) → w'.heap.size = w.heap.size →
      (Instr.entry (.pointer (some ⟨r, 0, none⟩))).run Tryz.prog w' = .ok (.tuple #[.agg #[.int .i64 (i : Int), .int .i64 (j : Int)], .agg #[.bool (ngB p.1.num), p.2.1, p.2.2]]) w' → wpList Tryz.prog ops Q rest (a.put o.dst (.tuple #[.bool true, .agg #[.int .i64 (i : Int), .int .i64 (j : Int)], .agg #[.bool (ngB p.1.num), p.2.1, p.2.2]])) w') :
    wpList Tryz.prog ops Q (o :: rest) a w := by
  refine wpList_next_ranges (α := Int × Int) (β := Value) w hg it hop 93 keyK selfR (fun x => .agg #[.int .i64 x.1, .int .i64 x.2]) id (fun key kl hk => ?_) (fun v y _ => ⟨v, rfl⟩) b r n D left cnt hit h (fun _ hl => hDone hl) (fun x c kl y w' cnt' hkey hlk hv hat hrg hlt hgr hsz hen => ?_)
  · obtain ⟨a', b', e, _, _, _⟩ := key_inv hk
    exact ⟨(a', b'), e⟩
  · obtain ⟨a', b', e, ha, hb, rfl⟩ := key_inv hkey
    injection e with e
    have e := congrArg Array.toList e
    simp only [List.cons.injEq, Value.int.injEq, true_and, and_true] at e
    obtain ⟨x1, x2⟩ := x
    obtain ⟨rfl, rfl⟩ := e
    have hhas := Maps.has_true_of_atKey hat
    have hc : ∃ (i j : Nat) (q : Rat), x1 = i ∧ x2 = j ∧ cellq T i j = some q ∧ q ≠ 0 := Classical.byContradiction fun hn => by
      have := hD.miss x1 x2 ha hb fun i j q e1 e2 hq => Classical.byContradiction fun h0 => hn ⟨i, j, q, e1, e2, hq, h0⟩
      rw [hhas] at this
      cases this
    obtain ⟨i, j, q, rfl, rfl, hq, h0⟩ := hc
    obtain ⟨_, p, h2, rfl, h4⟩ := hD.hit i j q hq h0
    have h5 := (hat .nil).symm.trans (h2 .nil)
    have hcv : c = qv p := by
      unfold selfR at hv
      injection hv with hv
      subst hv
      injection h5
    subst hcv
    exact hMore i j p w' cnt' hq h4 hrg hlt hgr hsz hen
theorem rowvs_next {C n : Nat} {gs : List Nat} (hn : 0 < n) : (rowvs C n gs)[gs.length]? = some (.slice none 0 0) := by
  unfold rowvs
  rw [List.getElem?_append_right (by rw [List.length_map]; exact Nat.le_refl _), List.length_map, Nat.sub_self, List.getElem?_replicate, if_pos hn]
/-- No cells lie in this block. -/
def NotC (w : World) (r : Nat) : Prop := ∀ cs e f, w.heap[r]? ≠ some (.cells cs e f)
theorem NotC.cell {w : World} {r : Nat} (h : NotC w r) {p : Addr} {v : Value} (hp : w.cell? p = some v) : some p.block ≠ some r := by
  intro e
  injection e with e
  unfold World.cell? at hp
  rw [e] at hp
  cases hh : w.heap[r]? with
  | none => rw [hh] at hp; cases hp
  | some o =>
    rw [hh] at hp
    cases o with
    | cells cs t f => exact h cs t f hh
    | _ => cases hp
theorem NotC.off {w w' : World} {r : Nat} (h : NotC w r) (hg : w.grownBy w' (some r)) {k : IntKind} {v : Value} {l : List Nat} (hs : IsS w k v l) : IsS w' k v l := by
  obtain ⟨A, c, rfl, h1, h2, h3⟩ := hs
  refine ⟨A, c, rfl, h1, h2, fun i d hd => ?_⟩
  obtain ⟨ad, rfl, hc⟩ := h3 i d hd
  exact ⟨ad, rfl, hg.cell hc (h.cell hc)⟩
theorem NotC.blk {w w' : World} {r : Nat} (h : NotC w r) (hg : w.grownBy w' (some r)) {g : Nat} {t : TypeId} {cs : Array Value} (hb : Blk w g t cs) : Blk w' g t cs := hb.grown hg fun e => by
  unfold Blk at hb
  rw [e] at hb
  exact h _ _ _ hb
theorem NotC.row {w w' : World} {r : Nat} (h : NotC w r) (hg : w.grownBy w' (some r)) {g n : Nat} {qs : List Rat} (hr : RowN w g n qs) : RowN w' g n qs := by
  obtain ⟨ps, h1, h2, h3, h4, h5⟩ := hr
  refine ⟨ps, h1, h2, h.blk hg h3, h4, fun i q hq => ?_⟩
  obtain ⟨p, k1, k2, k3⟩ := h5 i q hq
  exact ⟨p, k1, k2, h.off hg k3.1, h.off hg k3.2⟩
theorem NotC.tab {w w' : World} {r : Nat} (h : NotC w r) (hg : w.grownBy w' (some r)) {gT C base n : Nat} {gs : List Nat} {T : List (List Rat)} (ht : TabZ w gT C base n gs T) : TabZ w' gT C base n gs T :=
  ⟨⟨h.blk hg ht.blk.1, ht.blk.2⟩, ht.len, fun i g r' h1 h2 => ⟨(ht.row i g r' h1 h2).1, h.row hg (ht.row i g r' h1 h2).2.1, (ht.row i g r' h1 h2).2.2⟩, ht.apart⟩
theorem ranges_notC {w : World} {b r n : Nat} {D : DataW Value} {left : Lit → Bool} {cnt : Nat} (h : w.ranges Tryz.prog 93 selfR b r n D left cnt) : NotC w r := by
  obtain ⟨es, clock, since, seen, c0, _, _, _, _, hr, _⟩ := h
  intro cs e f hh
  rw [hr] at hh
  cases hh
set_option maxHeartbeats 6400000 in
set_option maxRecDepth 100000 in
theorem sfull_any (g b R C : Nat) (T : List (List Rat)) (w : World) (h : Spt w g b R C T) (hl : lenS T 100000) : Calls Tryz.prog 21 #[.pointer (some ⟨g, 0, none⟩)] w (RetSlT .u64 4294967296 T w) := by
  have HL := Lib.hid hl
  have hR := h.hR
  have hC := h.hC
  have HS := Lib.hid h.shp
  obtain ⟨D, hown, hD⟩ := h.map
  have HO := Lib.hid hown
  have HD := Lib.hid hD
  have hbw := h.map.lt
  clear hl hown hD
  go_enter Tryz.func21, Tryz.ntmps21
  go_wp2_with fail
  refine (ssize_any _ _ _ _ _ _ h).mono ?_
  rintro e w2 ⟨rfl, b2⟩
  obtain ⟨w3, hmk, r3, b3⟩ := run_make_v (P := Tryz.prog) (w := w2) Tryz.underlying52 info_vec13 R (by omega)
  have hg3 := b2.size
  have bb := b2.trans (b3.mono b2.size)
  clear b2 b3
  obtain ⟨gT, hgT⟩ : ∃ gT, gT = w2.heap.size := ⟨_, rfl⟩
  rw [← hgT] at hmk r3 hg3
  clear hgT
  have T0 : TabZ w3 gT C w.heap.size R [] (zerosT 0 C) := ⟨r3, rfl, fun i g r hi => by simp at hi, fun i j g hi => by simp at hi⟩
  have HG := Lib.hid hg3
  clear hg3 r3
  go_wp2
  go_loopw [18] (fun v18 wr => ∃ (k : Nat) (gs : List Nat), k ≤ R ∧ gs.length = k ∧ TabZ wr gT C w.heap.size (R - k) gs (zerosT k C) ∧ Below w.heap.size w wr ∧ v18 = .int .i64 (k : Int)) (fun v18 _ => R - (intOf v18).toNat)
  case atStart => exact ⟨0, [], by omega, rfl, T0, bb, rfl⟩
  case round =>
    clear T0 hmk bb
    obtain ⟨k, gs, hk, hgl, TZ, bb, rfl⟩ := hrel
    by_cases hlt : k < R
    · go_wp2_with fail
      refine (zero_row _ C _ rfl hC).mono ?_
      rintro e w4 ⟨g4, rfl, r4, hg4, b4⟩
      rw [zerosq_len] at r4 ⊢
      have TZ4 := TZ.below b4
      have bb4 := bb.trans (b4.mono bb.size)
      have hCL : w4.cell? ⟨gT, k, none⟩ = some (.slice none 0 0) := by
        have h1 := TZ4.blk.cell (rowvs_next (C := C) (gs := gs) (show 0 < R - k by omega))
        rw [addr_zero, hgl] at h1
        exact h1
      have hFR : w4.frozen? ⟨gT, k, none⟩ = false := TZ4.blk.1.frozen k
      have hNN : ∀ i : Nat, gs[i]? ≠ some g4 := fun i hi => by
        have hil := (List.getElem?_eq_some_iff.1 hi).1
        have hr : (zerosT k C)[i]? = some (zerosq C) := by unfold zerosT zerosq; rw [List.getElem?_replicate, if_pos (by omega)]
        have h3 := ((TZ.row i g4 _ hi hr).2.1).lt
        omega
      have hRk : R - k = (R - (k + 1)) + 1 := by omega
      rw [hRk] at TZ4
      have TZ5 := TZ4.add r4 (zerosq_len C) (Nat.le_trans bb.size hg4) hNN
      have hZS : zerosT k C ++ [zerosq C] = zerosT (k + 1) C := by unfold zerosT zerosq; rw [List.replicate_succ']
      rw [hZS, hgl] at TZ5
      unfold rowv at TZ5
      have bb5 := bb4.setCell (p := ⟨gT, k, none⟩) HG.out (.slice (some ⟨g4, 0, none⟩) C C)
      have HE := Lib.hid (And.intro TZ5 bb5)
      have hgl2 : (gs ++ [g4]).length = k + 1 := by rw [List.length_append, hgl]; rfl
      have HGL2 := Lib.hid hgl2
      clear TZ TZ4 TZ5 bb4 bb5 r4 hNN hRk hZS hgl hgl2 b4
      go_wp2
      go_roundw
      case rel => exact ⟨k + 1, _, by omega, HGL2.out, HE.out.1, HE.out.2, by go_num⟩
      case measure => simp [intOf]; omega
    · obtain rfl : k = R := by omega
      rw [Nat.sub_self] at TZ
      have hTS := shp_zeros k C
      go_wp2_with fail
      refine (mcells_any _ _ _ _ _ _ (h.below bb)).mono ?_
      rintro e w5 ⟨rfl, b5⟩
      have TZ5 := TZ.below b5
      have bb5 := bb.trans (b5.mono bb.size)
      have own5 := HO.out.kept (below_none bb5 none) (by simp)
      have HP5 := Lib.hid (partT_start HD.out HS.out)
      clear TZ b5 bb
      go_wp2_with (at_range; refine wpList_range_own _ rfl _ 80 rfl 93 36 keyK Tryz.underlying80 selfR b _ D rfl own5 ?_; intro w6 rg6 g6 s6)
      go_frame
      have b56 : Below w5.heap.size w5 w6 := (Below.refl _ w5).grown g6 (Nat.le_refl _) (fun q e => by cases e)
      have TZ6 := TZ5.below b56
      have bb6 := bb5.trans (b56.mono bb5.size)
      have hri := bb5.size
      obtain ⟨ri, hrie⟩ : ∃ ri, ri = w5.heap.size := ⟨_, rfl⟩
      have HRG : Hid (∀ (i g : Nat), gs[i]? = some g → g < ri) := fun i g hi => by
        have hil := (List.getElem?_eq_some_iff.1 hi).1
        obtain ⟨r, hr⟩ : ∃ r, (zerosT k C)[i]? = some r := ⟨_, List.getElem?_eq_getElem (by rw [← TZ5.len]; exact hil)⟩
        rw [hrie]
        exact ((TZ5.row i g r hi hr).2.1).lt
      rw [← hrie] at rg6 hri ⊢
      have HRI := Lib.hid hri
      clear hrie own5 TZ5 bb5 g6 s6 b56 hri
      go_loopw [] (fun wr => ∃ (left : Lit → Bool) (cnt : Nat) (T' : List (List Rat)), wr.ranges Tryz.prog 93 selfR b ri (Maps.size D) D left cnt ∧ Hid (PartT T T' left) ∧ Hid (shp T' k C) ∧ TabZ wr gT C w.heap.size 0 gs T' ∧ Below w.heap.size w wr) (fun wr => wr.rangeLeft b ri)
      case atStart => exact ⟨_, _, _, rg6, HP5, hTS, TZ6, bb6⟩
      case round =>
        clear rg6 HP5 TZ6 bb6 hTS
        obtain ⟨left, cnt, T', rg, HP, HT, TZ, bb⟩ := hrel
        go_wp2_with (at_next; refine wpList_next_q rfl _ rfl rfl rg HD.out ?_ ?_)
        · intro hl
          have hTT := partT_end HP.out HS.out HT.out hl
          rw [hTT] at TZ
          have hSL := TZ.slT HS.out.1 (by omega) (by omega)
          clear TZ rg
          go_wp2
          go_ret
          exact ⟨_, rfl, hSL, bb⟩
        · intro i j q U V w7 cnt7 hq hp rg7 hlt7 g7 s7 hen
          obtain ⟨A1, c1, e1, _⟩ := id hp.1
          obtain ⟨A2, c2, e2, _⟩ := id hp.2
          dsimp only at e1 e2
          subst e1
          subst e2
          have NC := ranges_notC rg
          have HLO := Lib.hid rg.left_eq
          have TZ7 := NC.tab g7 TZ
          have bb7 := bb.grown g7 bb.size (fun x e => by injection e with e; have := HRI.out; omega)
          obtain ⟨hik, hjC⟩ := cellq_lt HS.out hq
          obtain ⟨r', hr', hrl⟩ := row_ex HT.out hik
          obtain ⟨gi, hgi, -, hrow, hgb⟩ := TZ7.rowAt hr'
          have HLQ := Lib.hid (HL.out i j q hq)
          clear NC TZ g7 bb rg
          go_upto_region 11 with (fail)
          obtain ⟨wx, hwx, bx, BX7, BX8, hsx⟩ := vars2 w7 93 36 #[.int .i64 (i : Int), .int .i64 (j : Int)] #[.bool (ngB q.num), .slice A1 (digs 4294967296 q.num.natAbs).length c1, .slice A2 (digs 4294967296 q.den).length c2]
          rw [hwx]
          clear hwx
          rw [s7] at BX7 BX8
          have bxd : Below w7.heap.size w7 wx.drew := bx.trans ((Below.refl _ _).drew.mono bx.size)
          have TZx := TZ7.below bxd
          have hrowx := hrow.below bxd
          have rgx := rg7.kept (below_none bxd none) (by simp) (by simp)
          have bbx := bb7.trans (bxd.mono bb7.size)
          have hgl' := hrow.lt
          have hTl := TZ7.blk.lt
          have hgT := hrow.notTab TZ7.blk
          obtain ⟨x0, x1, -, -⟩ := Blk.two BX7
          obtain ⟨y0, y1, y2, -, -, -⟩ := three BX8
          have X0 : wx.drew.cell? ⟨wr.heap.size, 0, none⟩ = some (.int .i64 (i : Int)) := x0
          have X1 : wx.drew.cell? ⟨wr.heap.size, 1, none⟩ = some (.int .i64 (j : Int)) := x1
          have Y0 : wx.drew.cell? ⟨wr.heap.size + 1, 0, none⟩ = some (.bool (ngB q.num)) := y0
          have Y1 : wx.drew.cell? ⟨wr.heap.size + 1, 1, none⟩ = some (.slice A1 (digs 4294967296 q.num.natAbs).length c1) := y1
          have Y2 : wx.drew.cell? ⟨wr.heap.size + 1, 2, none⟩ = some (.slice A2 (digs 4294967296 q.den).length c2) := y2
          have hZ : wx.drew.cell? ⟨gT, i, none⟩ = some (.slice (some ⟨gi, 0, none⟩) C C) := by
            have h1 := TZx.blk.cell (rowvs_at (C := C) (n := 0) hgi)
            rw [addr_zero] at h1
            exact h1
          have hne1 : ¬ gi = gT := hgT
          have hne2 : ¬ gi = wr.heap.size := by omega
          have hne3 : ¬ gi = wr.heap.size + 1 := by omega
          have hij := fun w => indexN (P := Tryz.prog) Tryz.underlying53 (by kernel_rfl) (g := gi) (c := C) hjC w
          have kq : IsQ wx.drew (.agg #[.bool (ngB q.num), .slice A1 (digs 4294967296 q.num.natAbs).length c1, .slice A2 (digs 4294967296 q.den).length c2]) q := ⟨_, _, rfl, hp.1.below bbx, hp.2.below bbx⟩
          have hPS := partT_step HP.out HS.out HT.out hR hC hq
          have HPS := Lib.hid hPS
          have HTS : Hid (shp (setq T' i j q) k C) := setq_shp HT.out i j q
          have hbi : Hid (b ≠ gi ∧ ri ≠ gi ∧ w.heap.size ≤ gi ∧ gi < wx.drew.heap.size) := ⟨by omega, by have := HRG.out i gi hgi; omega, hgb, by have := bxd.size; omega⟩
          have HRJ : Hid (j < r'.length) := by show j < _; omega
          have Hgi := Lib.hid hgi
          have Hr' := Lib.hid hr'
          have hzx := bxd.size
          have hz7 := bb7.size
          clear hPS x0 x1 y0 y1 y2 BX7 BX8 TZ7 hrow rg7 hp hsx bx hgi hr' hrl hq
          go_region_held3 (fun w' => w'.cell? ⟨wr.heap.size, 0, none⟩ = some (.int .i64 (i : Int)) ∧ w'.cell? ⟨wr.heap.size, 1, none⟩ = some (.int .i64 (j : Int)) ∧ w'.cell? ⟨wr.heap.size + 1, 0, none⟩ = some (.bool (ngB q.num)) ∧ w'.cell? ⟨wr.heap.size + 1, 1, none⟩ = some (.slice A1 (digs 4294967296 q.num.natAbs).length c1) ∧ w'.cell? ⟨wr.heap.size + 1, 2, none⟩ = some (.slice A2 (digs 4294967296 q.den).length c2) ∧ w'.cell? ⟨gT, i, none⟩ = some (.slice (some ⟨gi, 0, none⟩) C C)) (go_keep) ((go_at_call 44; refine (scopied_any _ q _ (by exact kq) HLQ.out).mono ?_; rintro e w9 ⟨v9, rfl, k9, f9, b9⟩; have z0 := (b9.cell (World.block_lt_of_cell? _ _ X0)).trans X0; have z1 := (b9.cell (World.block_lt_of_cell? _ _ X1)).trans X1; have z2 := (b9.cell (World.block_lt_of_cell? _ _ Y0)).trans Y0; have z3 := (b9.cell (World.block_lt_of_cell? _ _ Y1)).trans Y1; have z4 := (b9.cell (World.block_lt_of_cell? _ _ Y2)).trans Y2; have z5 := (b9.cell (World.block_lt_of_cell? _ _ hZ)).trans hZ; have row9 := hrowx.below b9; obtain ⟨m0, m1, m2, P0, P1, P2, F0, F1, F2⟩ := row9.place hjC; obtain ⟨u9, t9, rfl, s9, d9⟩ := k9; obtain ⟨A9, c9, rfl, _⟩ := id s9; obtain ⟨D9, e9, rfl, _⟩ := id d9))
          all_goals
            have TZ9 := TZx.below b9
            obtain ⟨G10, -, R10⟩ := rowN_set row9 hjC s9 d9
            have TZ10 := TZ9.put Hgi.out Hr'.out G10 (R10 HRJ.out)
            have rg10 := (rgx.kept (below_none b9 none) (by simp) (by simp)).kept G10 (fun e => hbi.out.1 (by injection e)) (fun e => hbi.out.2.1 (by injection e))
            have bb10 := (bbx.trans (b9.mono bbx.size)).grown G10 (by have := b9.size; omega) (fun x e => by injection e with e; have := hbi.out.2.2.1; omega)
            have HLF := Lib.hid rg10.left_eq
            have HE := Lib.hid (And.intro rg10 (And.intro TZ10 bb10))
            clear TZ9 G10 R10 TZ10 rg10 bb10 rgx TZx row9 hrowx s9 d9 kq
            go_wp2
            go_roundw
            case rel => exact ⟨_, _, _, HE.out.1, HPS, HTS, HE.out.2.1, HE.out.2.2⟩
            case measure => rw [HLF.out, HLO.out]; exact hlt7
/-- So far as row i, place j the table has been laid. -/
structure Fil (t T : List (List Rat)) (R C i j : Nat) : Prop where
  shp : shp T R C
  at_ : ∀ a c, a < R → c < C → cellq T a c = if a < i ∨ (a = i ∧ c < j) then cellq t a c else some 0
theorem fil_start (t : List (List Rat)) (R C : Nat) : Fil t (zerosT R C) R C 0 0 := ⟨shp_zeros R C, fun a c ha hc => by
  rw [if_neg (by omega)]
  obtain ⟨q, hq⟩ := cellq_ex (shp_zeros R C) ha hc
  rw [hq, cellq_zeros hq]⟩
theorem Fil.step {t T : List (List Rat)} {R C i j : Nat} {q : Rat} (h : Fil t T R C i j) (hi : i < R) (hj : j < C) (hq : cellq t i j = some q) : Fil t (setq T i j q) R C i (j + 1) := ⟨setq_shp h.shp i j q, fun a c ha hc => by
  rw [cellq_setq h.shp hi hj]
  by_cases e : i = a ∧ j = c
  · obtain ⟨rfl, rfl⟩ := e
    rw [if_pos ⟨rfl, rfl⟩, if_pos (.inr ⟨rfl, by omega⟩), hq]
  · rw [if_neg e, h.at_ a c ha hc]
    by_cases e2 : a < i ∨ (a = i ∧ c < j)
    · rw [if_pos e2, if_pos (by omega)]
    · rw [if_neg e2, if_neg (by omega)]⟩
theorem Fil.next {t T : List (List Rat)} {R C i : Nat} (h : Fil t T R C i C) : Fil t T R C (i + 1) 0 := ⟨h.shp, fun a c ha hc => by
  rw [h.at_ a c ha hc]
  by_cases e : a < i ∨ (a = i ∧ c < C)
  · rw [if_pos e, if_pos (by omega)]
  · rw [if_neg e, if_neg (by omega)]⟩
theorem Fil.done {t T : List (List Rat)} {R C : Nat} (h : Fil t T R C R 0) (hs : Go.Proofs.YtpcdkepkipadaaaGreat.rat.shp t R C) : T = t := shp_ext h.shp hs fun a c ha hc => by rw [h.at_ a c ha hc, if_pos (.inl ha)]
theorem shp_may {t : List (List Rat)} (h : mayq t) : shp t t.length (wideq t) := ⟨rfl, h.2.2⟩
set_option maxHeartbeats 6400000 in
set_option maxRecDepth 100000 in
theorem sfrom_no (a0 : Value) (t : List (List Rat)) (w : World) (h0 : SlT .u64 4294967296 w a0 t) (hm : ¬ mayq t) : Calls Tryz.prog 19 #[a0] w (RetV (.tuple #[.pointer none, .int .i64 8]) w) := by
  have st0 := h0
  obtain ⟨A, c, rfl, -, -⟩ := h0.shape
  go_enter Tryz.func19, Tryz.ntmps19
  go_wp2_with fail
  refine (mcheck_any _ t 8 _ st0 (by rw [if_neg hm])).mono ?_
  rintro e w2 ⟨rfl, b2⟩
  go_wp2
  go_ret2
  exact ⟨rfl, b2⟩
set_option maxHeartbeats 6400000 in
set_option maxRecDepth 100000 in
theorem sfrom_ok (a0 : Value) (t : List (List Rat)) (w : World) (h0 : SlT .u64 4294967296 w a0 t) (hm : mayq t) (hl : lenT t 100000) : Calls Tryz.prog 19 #[a0] w (RetNew t.length (wideq t) t w) := by
  have st0 := h0
  obtain ⟨A0, c0, rfl, -, -⟩ := h0.shape
  obtain ⟨R, hR⟩ : ∃ R, R = t.length := ⟨_, rfl⟩
  obtain ⟨C, hC⟩ : ∃ C, C = wideq t := ⟨_, rfl⟩
  have HS : Hid (shp t R C) := by show shp t R C; rw [hR, hC]; exact shp_may hm
  have hR2 : R ≤ 200 := by rw [hR]; exact hm.1
  have hC2 : C ≤ 200 := by rw [hC]; exact hm.2.1
  have HM := Lib.hid hm
  have HL := Lib.hid hl
  have SZ : ∀ w0, SlT .u64 4294967296 w0 (.slice A0 t.length c0) t → Calls Tryz.prog 24 #[.slice A0 t.length c0] w0 (RetV (.tuple #[.int .i64 (R : Int), .int .i64 (C : Int)]) w0) := fun w0 h => by rw [hC]; subst hR; exact msize_any _ t w0 h
  rw [← hC]
  have st1 : SlT .u64 4294967296 w (.slice A0 R c0) t := by rw [hR]; exact st0
  rw [← hR] at SZ ⊢
  clear hm hl h0 hC hR st0
  go_enter Tryz.func19, Tryz.ntmps19
  go_wp2_with fail
  refine (mcheck_any _ t 0 _ st1 (by rw [if_pos HM.out])).mono ?_
  rintro e w2 ⟨rfl, b2⟩
  go_wp2_with fail
  refine (SZ _ (st1.below b2)).mono ?_
  rintro e w3 ⟨rfl, b3⟩
  have bb := b2.trans (b3.mono b2.size)
  go_wp2_with fail
  refine (snew_ok R C _ hR2 hC2).mono ?_
  rintro e w4 ⟨g, b, rfl, S4, hg, hb, b4⟩
  have bb4 := bb.trans (b4.mono bb.size)
  have HGB : Hid (w.heap.size ≤ g ∧ w.heap.size ≤ b) := ⟨Nat.le_trans bb.size hg, Nat.le_trans bb.size hb⟩
  have F0 := fil_start t R C
  clear b2 b3 b4 bb hg hb SZ
  go_wp2
  go_loopw [26] (fun v26 wr => ∃ (i : Nat) (T : List (List Rat)), i ≤ R ∧ Spt wr g b R C T ∧ Hid (Fil t T R C i 0) ∧ Below w.heap.size w wr ∧ v26 = .int .i64 (i : Int)) (fun v26 _ => R - (intOf v26).toNat)
  case atStart => exact ⟨0, _, by omega, S4, F0, bb4, rfl⟩
  case round =>
    clear S4 F0 bb4
    obtain ⟨i, T, hi, S, HF, bb, rfl⟩ := hrel
    by_cases hlt : i < R
    · obtain ⟨r, hr, hrl⟩ := row_ex HS.out hlt
      obtain ⟨ad, Ar, cr, rfl, hi2, ec0, sr0⟩ := st1.at_ hr
      rw [hrl] at ec0 sr0
      have ec := (bb.cell (World.block_lt_of_cell? w _ ec0)).trans ec0
      have HRR := Lib.hid hr
      have HRL := Lib.hid hrl
      clear hr hrl ec0
      go_wp2
      go_loopw [33] (fun v33 wy => ∃ (j : Nat) (T : List (List Rat)), j ≤ C ∧ Spt wy g b R C T ∧ Hid (Fil t T R C i j) ∧ Below w.heap.size w wy ∧ v33 = .int .i64 (j : Int)) (fun v33 _ => C - (intOf v33).toNat)
      case atStart => exact ⟨0, _, by omega, S, HF, bb, rfl⟩
      case round =>
        clear S HF bb ec
        obtain ⟨j, T, hj, S, HF, bb, rfl⟩ := hrel
        by_cases hjl : j < C
        · obtain ⟨q, hq⟩ : ∃ q, r[j]? = some q := ⟨_, List.getElem?_eq_getElem (by rw [HRL.out]; exact hjl)⟩
          obtain ⟨ge, oe, ue, te, eA, hil, e0, e1, e2, se, de⟩ := (sr0.below bb).at_ hq
          subst eA
          obtain ⟨A5, c5, rfl, _⟩ := id se
          obtain ⟨D5, e5, rfl, _⟩ := id de
          have hix := fun w => index3 (P := Tryz.prog) Tryz.underlying53 (by kernel_rfl) (g := ge) (o := oe) (c := cr) hjl w
          have hcq : cellq t i j = some q := cellq_of HRR.out hq
          have HF2 := Lib.hid (HF.out.step hlt hjl hcq)
          have HLQ : Hid (lenQ q 100000) := HL.out r (List.mem_of_getElem? HRR.out) q (List.mem_of_getElem? hq)
          have ba := below_alloc (w := wr) (Nat.le_refl _) (.cells #[.bool (ngB q.num), .slice A5 (digs 4294967296 q.num.natAbs).length c5, .slice D5 (digs 4294967296 q.den).length e5] 36)
          have bba := bb.trans (ba.mono bb.size)
          have hsk : C - (j + 1) < C - j := by omega
          clear hcq hq HF
          go_wp2_with fail
          refine (sput_ok g b R C i j T _ q _ (S.below ba) ⟨_, _, rfl, se.below ba, de.below ba⟩ hlt hjl HLQ.out).mono ?_
          rintro e w6 ⟨rfl, S6, g6⟩
          have bb6 := bba.grown g6 bba.size (fun x e => by injection e with e; have := HGB.out; omega)
          clear S se de e0 e1 e2 ba bba g6
          go_wp2
          go_roundw
          case rel => exact ⟨j + 1, _, by omega, S6, HF2, bb6, by go_num⟩
          case measure => simp [intOf]; omega
        · obtain rfl : j = C := by omega
          have HF2 := Lib.hid HF.out.next
          have hsk : R - (i + 1) < R - i := by omega
          go_wp2
          refine ⟨⟨i + 1, _, by omega, S, HF2, bb, by go_num⟩, ?_⟩
          simp [intOf]; omega
    · obtain rfl : i = R := by omega
      have hTT := HF.out.done HS.out
      rw [hTT] at S
      go_wp2
      go_ret2
      exact ⟨_, _, rfl, S, HGB.out.1, HGB.out.2, bb⟩
end Go.Proofs.YtpcdkepkipadaaaGreat.rat
namespace Go.Proofs.YtpcdkepkipadaaaGreat.rat
open Go.RowKit Go.ChangeShapes Go.WideShapes Go.ChangeAt Go.Joins Go.Deep Go.Proofs.YtpcdkepkipadaaaGreat.num Go.Proofs.YtpcdkepkipadaaaGreat.mem Go.Proofs.YtpcdkepkipadaaaGreat.nat Go.Proofs.YtpcdkepkipadaaaGreat.txt Go.Proofs.YtpcdkepkipadaaaGreat.str Go.Proofs.YtpcdkepkipadaaaGreat.flow Go.Proofs.YtpcdkepkipadaaaGreat.whl
set_option linter.unusedVariables false
/-- A slice of slices of structs of a sign, limbs, and limbs, as it came in. -/
def ArgT (w : World) (v : Value) : Prop := ∃ A n c, v = .slice A n c ∧ n ≤ c ∧ c ≤ maxLen ∧ ∀ i, i < n → ∃ ad u, A = some ad ∧ w.cell? (ad.add i) = some u ∧ ArgQs w u
theorem ArgT.below {w w' : World} {v : Value} (h : ArgT w v) (hb : Below w.heap.size w w') : ArgT w' v := by
  obtain ⟨A, n, c, e, h1, h2, h3⟩ := h
  refine ⟨A, n, c, e, h1, h2, fun i hi => ?_⟩
  obtain ⟨ad, u, a1, e0, k⟩ := h3 i hi
  exact ⟨ad, u, a1, (hb.cell (World.block_lt_of_cell? w _ e0)).trans e0, ArgQs.below k hb⟩
theorem trod_qs {H : Type} {enc : TypeId × Value → H} {P : Program} {W : World} {fuel : Nat} {ts t e : TypeId} {f0 f1 g0 g1 : Field} {v : Value} {x : DataW H × List MemPlace} (ht : P.underlying ts = some (.slice t)) (hs : P.underlying t = some (.struct #[f0, f1])) (hC : P.cellsOf t = 3) (ho : (f0.offset == 0 && f1.offset == 2 && P.cellsOf f0.type == 2 && P.cellsOf f1.type == 1) = true)
    (hs2 : P.underlying f0.type = some (.struct #[g0, g1])) (hone : oneCellFields P #[g0, g1] = true) (hb : P.underlying g0.type = some .bool) (hsl : P.underlying g1.type = some (.slice e)) (hsl2 : P.underlying f1.type = some (.slice e)) (he : P.underlying e = some (.int .u64)) (ce : P.cellsOf e = 1)
    (hf : DataW.trod enc P W 0 (fun _ => true) true fuel ts [v] = some x) : ArgQs W v := by
  rcases Go.Deep.open_slice ht hf with ⟨hcs, hx⟩ | ⟨a, len', cap', m, n, D, Pl, hcs, _, hl, hm, hmm, hx, hrows⟩
  · injection hcs with hcs
    subst hcs
    exact ⟨none, 0, 0, rfl, by omega, by simp, fun i hi => by omega⟩
  · injection hcs with hcs
    subst hcs
    refine ⟨some a, len', cap', rfl, hl, hm, fun i hi => ?_⟩
    obtain ⟨cs', h1, h2⟩ := hrows i (by simp at hmm; omega)
    rw [hC] at h1
    obtain ⟨_, hlen, hcell⟩ := World.cells?_some h1
    match cs', hlen with
    | [c0, c1, c2], _ =>
      obtain ⟨b, l, m', e0, k1, k2, k3, k4⟩ := trod_q hs ho hs2 hone hb hsl hsl2 he ce h2
      subst e0
      have g0 := hcell 0 (by omega)
      have g1 := hcell 1 (by omega)
      have g2 := hcell 2 (by omega)
      rw [add_add] at g0 g1 g2
      exact ⟨a, b, c1, c2, l, m', rfl, by simpa using g0, by simpa using g1, by simpa using g2, k1, k2, k3, k4⟩
theorem arg_t {H : Type} {enc : TypeId × Value → H} {P : Program} {W : World} {base : Nat} {tt ts t e : TypeId} {f0 f1 g0 g1 : Field} {v : Value} {d : DataW H} {p : List MemPlace} (htt : P.underlying tt = some (.slice ts)) (hC1 : P.cellsOf ts = 1) (ht : P.underlying ts = some (.slice t)) (hs : P.underlying t = some (.struct #[f0, f1])) (hC : P.cellsOf t = 3) (ho : (f0.offset == 0 && f1.offset == 2 && P.cellsOf f0.type == 2 && P.cellsOf f1.type == 1) = true)
    (hs2 : P.underlying f0.type = some (.struct #[g0, g1])) (hone : oneCellFields P #[g0, g1] = true) (hb : P.underlying g0.type = some .bool) (hsl : P.underlying g1.type = some (.slice e)) (hsl2 : P.underlying f1.type = some (.slice e)) (he : P.underlying e = some (.int .u64)) (ce : P.cellsOf e = 1)
    (hv : Value.okWide P W .any base tt v) (h : DataW.Trod enc P W 0 (fun _ => true) true tt v d p) : ArgT W v := by
  obtain ⟨a0, len, cap, rfl⟩ := okWide_slice htt hv
  obtain ⟨fuel, hf⟩ := h
  rcases Go.Deep.open_slice htt hf with ⟨hcs, hx⟩ | ⟨a, len', cap', m, n, D, Pl, hcs, _, hl, hm, hmm, hx, hrows⟩
  · simp [Value.cells] at hcs
    obtain ⟨rfl, rfl, rfl⟩ := hcs
    exact ⟨none, 0, 0, rfl, by omega, by simp, fun i hi => by omega⟩
  · simp [Value.cells] at hcs
    obtain ⟨rfl, rfl, rfl⟩ := hcs
    refine ⟨some a, len, cap, rfl, hl, hm, fun i hi => ?_⟩
    obtain ⟨cs', h1, h2⟩ := hrows i (by simp at hmm; omega)
    rw [hC1] at h1
    obtain ⟨_, hlen, hcell⟩ := World.cells?_some h1
    match cs', hlen with
    | [c0], _ =>
      have g0 := hcell 0 (by omega)
      rw [add_add] at g0
      exact ⟨a, c0, rfl, by simpa using g0, trod_qs ht hs hC ho hs2 hone hb hsl hsl2 he ce h2⟩
end Go.Proofs.YtpcdkepkipadaaaGreat.rat
namespace Go.Proofs.YtpcdkepkipadaaaGreat.rat
open Go.RowKit Go.Proofs.YtpcdkepkipadaaaGreat.num Go.Proofs.YtpcdkepkipadaaaGreat.mem Go.Proofs.YtpcdkepkipadaaaGreat.nat Go.Proofs.YtpcdkepkipadaaaGreat.txt Go.Proofs.YtpcdkepkipadaaaGreat.str Go.Proofs.YtpcdkepkipadaaaGreat.flow Go.Proofs.YtpcdkepkipadaaaGreat.whl
set_option linter.unusedVariables false
section
variable {P : Program}
/-- 'all = append(all, x)', all a row of slices of the call's own. -/
theorem wpList_append_w {w : World} {ops : Array Oper} {rest : List Oper} {o : Oper} {a : Act} {Q : Exit → Act → World → Prop} (hgd : o.guard = none) (s x : Operand) {t : TypeId}
    (ho : o.op = .call { callee := .builtin .append, args := #[s, x], argTypes := #[t, t] })
    {base : Nat} {T : TypeId} (hT : P.underlying t = some (.slice T)) (hI : ∃ i, P.info? T = some i ∧ i.zero = some (.slice none 0 0) ∧ i.size = 1 ∧ i.bytes = 24) {v u : Value} {vs : List Value} (hs : a.eval s = v) (hown : RowV w base T v vs) (hx : a.eval x = .slice (some ⟨w.heap.size, 0, none⟩) 1 1) (hu : u.oneCell' = true)
    (hlen : vs.length ≤ 1000000000) (hbase : base ≤ w.heap.size)
    (h : ∀ v' w', RowV w' base T v' (vs ++ [u]) → Below base w w' → Hid (Grew w w' v v') → wpList P ops Q rest (a.put o.dst v') w') : wpList P ops Q (o :: rest) a (w.alloc (.cells #[u] T)) := by
  obtain ⟨i, hi, hz, hsz, hby⟩ := hI
  refine wpList_append_lies (w.alloc (.cells #[u] T)) hgd s x t ho base T i (.slice none 0 0) 1 24 hT hi hz hsz hby rfl (by omega) v vs.length vs hs (World.ownsRow.alloc hown _) ⟨w.heap.size, 0, none⟩ 1 1 [u] hx rfl ?_ ?_ (by omega) (by unfold maxLen; omega) (by omega) (by simp; omega) _ rfl ?_
  · exact World.news_of_block (heap_alloc_new w _)
  · intro u' hu'
    obtain rfl := List.mem_singleton.1 hu'
    exact hu
  · intro g cap w' g1 g2 g3 g4
    have h5 : w.grownBy w' v.ownBlock := grown_trans (World.grownBy_alloc w _ _) g2
    refine h _ w' (by unfold RowV; rw [List.length_append]; exact g1) ((Below.refl base w).grown h5 hbase hown.base_le) ?_
    refine ⟨?_, h5, fun k hk hne e1 => ?_⟩
    · intro k q l hq hf
      refine ⟨hq.farKept hf h5, ?_⟩
      rintro ad n c rfl hn
      rcases g3 with h3 | h3
      · have := hf ad n c rfl hn
        rw [h3] at this
        exact this
      · subst h3
        intro e1
        have e2 : ad.block = (w.alloc (.cells #[u] T)).heap.size := by simpa [Value.ownBlock] using e1
        obtain ⟨A, c', e3, k1, k2, k3⟩ := hq
        injection e3 with e3 e4 e5
        subst e3; subst e4
        obtain ⟨ad', he, hc⟩ := k3 0 _ (List.getElem?_eq_getElem hn)
        injection he with he; subst he
        have h6 := World.block_lt_of_cell? w _ hc
        rw [Go.ChangeShapes.block_add] at h6
        simp at e2
        omega
    · have e2 : g = k := by simpa [Value.ownBlock] using e1
      subst e2
      rcases g3 with h3 | h3
      · exact hne h3
      · simp at h3; omega
end
/-- Two rows of the call's own, of the same fractions, limbs in new memory. -/
def RetFewW (n : Nat) (w : World) (e : Ending) (w' : World) : Prop := ∃ V U ps rs, e = .returned (.tuple #[V, U]) ∧ TwoRows w w' V U ps rs ∧ NewL w.heap.size ps ∧ NewL w.heap.size rs ∧ rs.map (·.1) = ps.map (·.1) ∧ ps.length = n ∧ (∀ p ∈ ps, lenQ p.1 1)
set_option maxHeartbeats 6400000 in
set_option maxRecDepth 100000 in
theorem few11_two (A0 : Option Addr) (n0 c0 M : Nat) (w : World) (h0 : ArgQs w (.slice A0 n0 c0)) (hM : M ≤ 8) :
    Calls Tryz.prog 18 #[.slice A0 n0 c0, .int .i64 (M : Int)] w (RetFewW (min n0 M) w) := by
  obtain ⟨A0_, n0_, c0_, e_, hn0, hc0, hel⟩ := h0
  injection e_ with e1_ e2_ e3_
  subst e1_
  subst e2_
  subst e3_
  have HEL := Lib.hid hel
  clear hel
  unfold maxLen at hc0
  have bb : Below w.heap.size w w := Below.refl _ _
  go_enter Tryz.func18, Tryz.ntmps18
  go_wp2
  go_loopw [6, 7, 8] (fun v4 v5 v6 wr => ∃ (k : Nat) (ps rs : List Elt), k ≤ M ∧ k ≤ n0 ∧ Hid (ps.length = k) ∧ Hid (rs.map (·.1) = ps.map (·.1)) ∧ Hid (∀ p ∈ ps, lenQ p.1 1) ∧ TwoRows w wr v4 v5 ps rs ∧ NewL w.heap.size ps ∧ NewL w.heap.size rs ∧ v6 = .int .i64 (k : Int)) (fun _ _ v6 _ => M - (intOf v6).toNat)
  case atStart =>
    have r0 := rowF_lit0 36 w w.heap.size (Nat.le_refl _)
    have r1 := rowF_lit0 47 (w.alloc (.cells #[] 36)) w.heap.size (by simp)
    have r0' := r0.below (below_alloc (Nat.le_refl _) (.cells #[] 47))
    refine ⟨0, [], [], by omega, by omega, rfl, rfl, (by show ∀ p ∈ _, _; intro p hp; cases hp), ⟨r0', ?_, ⟨FarF.nil _ _ _ _, FarF.nil _ _ _ _⟩, ⟨FarF.nil _ _ _ _, FarF.nil _ _ _ _⟩, ?_, (below_alloc (Nat.le_refl _) _).alloc (by simp) _⟩, NewL.nil _, NewL.nil _, rfl⟩
    · simpa using r1
    · intro g h1 h2
      simp [Value.ownBlock] at h1 h2
      omega
  case round =>
    obtain ⟨k, ps, rs, hk8, hkn, HPL, HRP, HLQ, hTR, hNP, hNR, rfl⟩ := hrel
    obtain ⟨u4, hu4⟩ : ∃ u4, u4 = u6 := ⟨_, rfl⟩
    obtain ⟨u5, hu5⟩ : ∃ u5, u5 = u7 := ⟨_, rfl⟩
    subst hu4
    subst hu5
    have bb' := hTR.2.2.2.2.2
    clear bb
    have bb := bb'
    clear bb'
    by_cases hlt : k < n0 ∧ k < M
    · obtain ⟨hlt1, hlt2⟩ := hlt
      obtain ⟨ad, b, ue, te, l, m, hA0, e0, e1, e2, hu, lu, ht, lt⟩ := HEL.out k hlt1
      subst hA0
      obtain ⟨Ae, ce, rfl, _⟩ := id hu
      obtain ⟨De, ee, rfl, _⟩ := id ht
      replace e0 := (bb.cell (World.block_lt_of_cell? w _ e0)).trans e0
      replace e1 := (bb.cell (World.block_lt_of_cell? w _ e1)).trans e1
      replace e2 := (bb.cell (World.block_lt_of_cell? w _ e2)).trans e2
      replace hu := hu.below bb
      replace ht := ht.below bb
      obtain ⟨q, hq⟩ : ∃ q, q = cleanQ b l m 1 := ⟨_, rfl⟩
      have lq : lenQ q 1 := by rw [hq]; exact cleanQ_len _ _ _ (by omega)
      have HQ := Lib.hid hq.symm
      clear hq
      have bl : Below wr.heap.size wr wr := Below.refl _ _
      have hszr := bb.size
      go_upto_region 5 with (fail)
      refine flowp 6 [Pd.eq (.slice (some ad) n0 c0), Pd.eq (.int .i64 (k : Int)), Pd.eq (.pointer (some (ad.add (k * 3)))), Pd.eq (.agg #[.bool b, .slice Ae l.length ce, .slice De m.length ee]), pq (q) wr.heap.size, pn 36 #[.bool false, .slice none 0 0, .slice none 0 0] wr.heap.size] (by kernel_rfl) ?ob1 ?done1
      case ob1 =>
        refine And.intro (ob_move rfl (wt_none rfl) (ev_far rfl rfl) (fun _ _ h => h)) ?_
        refine And.intro (ob_move rfl (wt_none rfl) (ev_far rfl rfl) (fun _ _ h => h)) ?_
        refine And.intro (ob_indexAddr rfl (wt_none rfl) (ev_dep (j := 0) (by kernel_rfl) rfl rfl) (ev_dep (j := 1) (by kernel_rfl) rfl rfl) (fun _ _ _ hx hy => ⟨_, by rw [hx, hy]; exact index3_any Tryz.underlying53 (by kernel_rfl) ad hlt1 _, rfl⟩)) ?_
        refine And.intro (ob_load rfl (wt_none rfl) (ev_dep (j := 2) (by kernel_rfl) rfl rfl) (fun w2 hb => load3_any Tryz.underlying36 rfl (by kernel_rfl) ((hb.cell (World.block_lt_of_cell? wr _ e0)).trans e0) ((hb.cell (World.block_lt_of_cell? wr _ e1)).trans e1) ((hb.cell (World.block_lt_of_cell? wr _ e2)).trans e2)) (fun _ _ => rfl)) ?_
        refine And.intro (ob_call2 rfl Tryz.func9 (by kernel_rfl) (wt_none rfl) (ev_dep (j := 3) (by kernel_rfl) rfl rfl) (ev_const _) (fun w2 u0 u1 hb h0 h1 => by obtain rfl := h0; obtain rfl := h1; exact (HQ.out ▸ qclean_any b _ _ l m 1 1 _ rfl (hu.below hb) lu (ht.below hb) lt (by omega) (by omega)).mono fun e w3 h => RetQ.pd h hb.size)) ?_
        refine And.intro (ob_alloc (z := .agg #[.bool false, .slice none 0 0, .slice none 0 0]) rfl rfl (fun _ => by kernel_rfl) (fun _ _ hB h => ⟨_, rfl, hB, h⟩)) ?_
        trivial
      case done1 =>
        refine fun w2 hb2 v0 h0 v1 h1 v2 h2 v3 h3 v4 h4 v5 h5 d5 b hbf => ?_
        obtain rfl := h0; obtain rfl := h1; obtain rfl := h2; obtain rfl := h3
        obtain ⟨q4, f4⟩ := h4
        obtain ⟨g1_5, rfl, hg5, B5⟩ := h5
        simp only [Act.put, List.setIfInBounds_toArray, List.set_cons_zero, List.set_cons_succ] at hbf
        subst hbf
        replace bb := bb.trans (hb2.mono bb.size)
        have hsz2 := bb.size
        replace bl := bl.trans (hb2.mono bl.size)
        have BA9 := B5
        obtain ⟨u4, t4, rfl, q4, d4⟩ := q4
        obtain ⟨A7, c7, rfl, _⟩ := id q4
        obtain ⟨D7, e7, rfl, _⟩ := id d4
        refine ops_store (i := 6) rfl rfl rfl rfl rfl rfl (cells := [.bool (ngB (q).num), .slice A7 (digs 4294967296 (q).num.natAbs).length c7, .slice D7 (digs 4294967296 (q).den).length e7]) rfl BA9 rfl (by kernel_rfl) (one3 rfl rfl rfl) fun w3 hg3 BN3 => ?_
        replace q4 := off q4 BA9 no_ints3 hg3
        replace d4 := off d4 BA9 no_ints3 hg3
        replace bb := bb.trans ((Below.refl _ _).grown hg3 bb.size (fun g hg => by injection hg with hg; omega))
        have hsz3 := bb.size
        have B7 : Blk w3 (g1_5) _ _ := BN3
        have k7s := q4
        have k7d := d4
        have k7z : IsZ w3 (.agg #[.bool (ngB (q).num), .slice A7 (digs 4294967296 (q).num.natAbs).length c7]) ((q).num) := ⟨_, rfl, k7s⟩
        have k7 : IsQ w3 (.agg #[.bool (ngB (q).num), .slice A7 (digs 4294967296 (q).num.natAbs).length c7, .slice D7 (digs 4294967296 (q).den).length e7]) (q) := ⟨_, _, rfl, k7s, k7d⟩
        have hq_ := bl.size
        replace bl := bl.trans ((Below.refl _ _).grown hg3 bl.size (fun g hg => by injection hg with hg; omega))
        clear hq_
        refine ops_done ?_
        have g1 := (f4 _ _ _ rfl).1
        have g2 := (f4 _ _ _ rfl).2
        have under4 := hTR.1.under
        have under5 := hTR.2.1.under
        have far4 : Far u4 (.slice A7 (digs 4294967296 (q).num.natAbs).length c7) ∧ Far u4 (.slice D7 (digs 4294967296 (q).den).length e7) := ⟨g1.far under4, g2.far under4⟩
        have far5 : Far u5 (.slice A7 (digs 4294967296 (q).num.natAbs).length c7) ∧ Far u5 (.slice D7 (digs 4294967296 (q).den).length e7) := ⟨g1.far under5, g2.far under5⟩
        have hT2 := hTR.below bl
        have HT2 := Lib.hid hT2
        have hr4 : RowF 36 w3 w.heap.size u4 ps := hT2.1
        have hszT : w.heap.size ≤ w3.heap.size := hT2.2.2.2.2.2.size
        have hne4 : u4.ownBlock ≠ some g1_5 := fun e => by have := under4 _ e; omega
        obtain ⟨x70, x71, x72, _, _, _⟩ := three B7
        obtain ⟨P1, hP1⟩ : ∃ P1 : Elt, P1 = (q, .slice A7 (digs 4294967296 (q).num.natAbs).length c7, .slice D7 (digs 4294967296 (q).den).length e7) := ⟨_, rfl⟩
        have HP1 := Lib.hid hP1
        have k7d_ : IsE .u64 4294967296 w3 (q, .slice A7 (digs 4294967296 (q).num.natAbs).length c7, .slice D7 (digs 4294967296 (q).den).length e7) := ⟨k7s, k7d⟩
        have lq3 : lenQ q 30000 := ⟨Nat.le_trans lq.1 (by decide), Nat.le_trans lq.2 (by decide)⟩
        have HL8 : Hid (ps.length ≤ 1000000000 ∧ rs.length ≤ 1000000000) := by
          have h1 := HPL.out
          have h2 := congrArg List.length HRP.out
          rw [List.length_map, List.length_map] at h2
          exact ⟨by omega, by omega⟩
        clear hT2 hTR e0 e1 e2 hu ht lu lt hP1
        obtain ⟨cA0, cA1, cA2⟩ := new_cells w3 36 (.bool (ngB (q).num)) (.slice A7 (digs 4294967296 (q).num.natAbs).length c7) (.slice D7 (digs 4294967296 (q).den).length e7)
        have bA := below_alloc (w := w3) (Nat.le_refl _) (.cells #[.bool (ngB (q).num), .slice A7 (digs 4294967296 (q).num.natAbs).length c7, .slice D7 (digs 4294967296 (q).den).length e7] 36)
        obtain ⟨wA, hwA⟩ : ∃ wA, wA = w3.alloc (.cells #[.bool (ngB (q).num), .slice A7 (digs 4294967296 (q).num.natAbs).length c7, .slice D7 (digs 4294967296 (q).den).length e7] 36) := ⟨_, rfl⟩
        have HWA := Lib.hid hwA
        rw [← hwA] at cA0 cA1 cA2 bA
        replace bA := bA.drew
        have rA := hr4.below bA
        have eA := k7d_.below bA
        have tA := HT2.out.below bA
        have BA_ := B7.below bA
        have hszA : w.heap.size ≤ wA.drew.heap.size := tA.2.2.2.2.2.size
        have TA := Lib.hid tA
        clear tA
        subst hwA
        obtain ⟨xA0, xA1, xA2, _, _, _⟩ := three BA_
        go_upto_region 6 with (fail)
        go_region_law (first
          | (refine step_append_q rfl (.tmp 28) (.tmp 30) rfl Tryz.underlying53 info_rat (v := u4) (p := (q, .slice A7 (digs 4294967296 (q).num.natAbs).length c7, .slice D7 (digs 4294967296 (q).den).length e7)) (ps := ps) (by rfl) (by exact rA) (ad := ⟨w3.heap.size, 0, none⟩) (c := 1) (by rfl) (by exact cA0) (by exact cA1) (by exact cA2) rfl rfl HL8.out.1 (by exact hszA) ?_; intro v5 w5 row5 bb5 HK5; have T5 := Lib.hid (TA.out.one row5 HK5.out bb5 eA far4 far5); have s5 := (HK5.out.1 _ _ _ eA.1 far4.1).1; have d5 := (HK5.out.1 _ _ _ eA.2 far4.2).1; have B5_ := BA_.other HK5.out.2.1 hne4; obtain ⟨x50, x51, x52, _, _, _⟩ := three B5_)
          | (go_simp; go_at_call 12; refine (qoff_any _ q _ ⟨_, _, rfl, (by exact s5), (by exact d5)⟩ lq3).mono ?_; rintro e w6 ⟨v6, rfl, k6, f6, b6⟩; have T6 := Lib.hid (T5.out.below b6); have row6 := T6.out.2.1; obtain ⟨u6, t6, rfl, q6, d6⟩ := k6; obtain ⟨A6, c6, rfl, _⟩ := id q6; obtain ⟨D6, e6, rfl, _⟩ := id d6; have hsz6 : w.heap.size ≤ w6.heap.size := T6.out.2.2.2.2.2.size; obtain ⟨cC0, cC1, cC2⟩ := new_cells w6 47 (.bool (ngB (q).num)) (.slice A6 (digs 10000 (q).num.natAbs).length c6) (.slice D6 (digs 10000 (q).den).length e6); have rC := row6.below (below_alloc (Nat.le_refl _) (.cells #[.bool (ngB (q).num), .slice A6 (digs 10000 (q).num.natAbs).length c6, .slice D6 (digs 10000 (q).den).length e6] 47)); have hszC := Nat.le_trans hsz6 (below_alloc (w := w6) (Nat.le_refl _) (.cells #[.bool (ngB (q).num), .slice A6 (digs 10000 (q).num.natAbs).length c6, .slice D6 (digs 10000 (q).den).length e6] 47)).size)
          | (refine step_append_q rfl (.tmp 32) (.tmp 35) rfl Tryz.underlying57 info_q (v := u5) (p := (q, .slice A6 (digs 10000 (q).num.natAbs).length c6, .slice D6 (digs 10000 (q).den).length e6)) (ps := rs) (by rfl) (by exact rC) (ad := ⟨w6.heap.size, 0, none⟩) (c := 1) (by rfl) (by exact cC0) (by exact cC1) (by exact cC2) rfl rfl HL8.out.2 (by exact hszC) ?_; intro v7 w7 row7 bb7 HK7))
        all_goals
          have ba6 := below_alloc (w := w6) (Nat.le_refl _) (.cells #[.bool (ngB (q).num), .slice A6 (digs 10000 (q).num.natAbs).length c6, .slice D6 (digs 10000 (q).den).length e6] 47)
          have TC := T6.out.below ba6
          have EC : IsE .i64 10000 (w6.alloc (.cells #[.bool (ngB (q).num), .slice A6 (digs 10000 (q).num.natAbs).length c6, .slice D6 (digs 10000 (q).den).length e6] 47)) (q, .slice A6 (digs 10000 (q).num.natAbs).length c6, .slice D6 (digs 10000 (q).den).length e6) := ⟨q6.below ba6, d6.below ba6⟩
          have j1 := (f6 _ _ _ rfl).1
          have j2 := (f6 _ _ _ rfl).2
          have n4 := T5.out.1.under
          have n5 := T5.out.2.1.under
          have T7 := TC.two row7 HK7.out bb7 EC ⟨j1.far n4, j2.far n4⟩ ⟨j1.far n5, j2.far n5⟩
          have NP7 := hNP.snoc (p := (q, .slice A7 (digs 4294967296 (q).num.natAbs).length c7, .slice D7 (digs 4294967296 (q).den).length e7)) (g1.mono hszr) (g2.mono hszr)
          have hs5 : w.heap.size ≤ w5.heap.size := T5.out.2.2.2.2.2.size
          have NR7 := hNR.snoc (p := (q, .slice A6 (digs 10000 (q).num.natAbs).length c6, .slice D6 (digs 10000 (q).den).length e6)) (j1.mono hs5) (j2.mono hs5)
          have HPL7 : Hid ((ps ++ [((q, .slice A7 (digs 4294967296 (q).num.natAbs).length c7, .slice D7 (digs 4294967296 (q).den).length e7) : Elt)]).length = k + 1) := by show _ = _; rw [List.length_append, HPL.out]; rfl
          have HRP7 : Hid ((rs ++ [((q, .slice A6 (digs 10000 (q).num.natAbs).length c6, .slice D6 (digs 10000 (q).den).length e6) : Elt)]).map (·.1) = (ps ++ [((q, .slice A7 (digs 4294967296 (q).num.natAbs).length c7, .slice D7 (digs 4294967296 (q).den).length e7) : Elt)]).map (·.1)) := by show _ = _; rw [List.map_append, List.map_append, HRP.out]; rfl
          have HLQ7 : Hid (∀ p ∈ ps ++ [((q, .slice A7 (digs 4294967296 (q).num.natAbs).length c7, .slice D7 (digs 4294967296 (q).den).length e7) : Elt)], lenQ p.1 1) := fun p hp => by
            rcases List.mem_append.1 hp with hp | hp
            · exact HLQ.out p hp
            · rw [List.mem_singleton.1 hp]; exact lq
          have hme : M - (k + 1) < M - k := by omega
          go_wp2
          go_roundw
          case rel => exact ⟨k + 1, _, _, by omega, by omega, HPL7, HRP7, HLQ7, T7, NP7, NR7, rfl⟩
          case measure => exact hme
    · have HEND : Hid (TwoRows w wr u4 u5 ps rs ∧ NewL w.heap.size ps ∧ NewL w.heap.size rs ∧ rs.map (·.1) = ps.map (·.1) ∧ ps.length = min n0 M ∧ (∀ p ∈ ps, lenQ p.1 1)) := ⟨hTR, hNP, hNR, HRP.out, by rw [HPL.out]; omega, HLQ.out⟩
      clear hTR HRP HLQ HPL hNP hNR
      have hx : ¬ k < n0 ∨ (k < n0 ∧ ¬ k < M) := by omega
      rcases hx with hx | ⟨hx1, hx2⟩
      all_goals
        go_wp2
        go_ret2
        exact ⟨_, _, ps, rs, rfl, HEND.out.1, HEND.out.2.1, HEND.out.2.2.1, HEND.out.2.2.2.1, HEND.out.2.2.2.2.1, HEND.out.2.2.2.2.2⟩
theorem RowF.weak {T : TypeId} {w : World} {base base' : Nat} {v : Value} {ps : List Elt} (h : RowF T w base v ps) (hb : base' ≤ base) : RowF T w base' v ps := by
  refine ⟨h.1, ?_⟩
  rcases h.2 with h2 | ⟨g, cap, cur, e, h1, h2⟩
  · exact .inl h2
  · exact .inr ⟨g, cap, cur, e, Nat.le_trans hb h1, h2⟩
theorem flat3_take : ∀ (ps : List Elt) (m : Nat), flat3 (ps.take m) = (flat3 ps).take (m * 3)
  | [], m => by simp [flat3]
  | p :: ps, 0 => by simp [flat3]
  | p :: ps, m + 1 => by
    rw [List.take_succ_cons, flat3_cons, flat3_cons, flat3_take ps m, show (m + 1) * 3 = m * 3 + 3 from by omega, List.take_append, cells3_len, List.take_of_length_le (l := cells3 p) (by rw [cells3_len]; omega), Nat.add_sub_cancel]
/-- A row's front is a row of the call's own. -/
theorem RowF.take {T : TypeId} {w : World} {base n c m : Nat} {A : Option Addr} {ps : List Elt} (h : RowF T w base (.slice A n c) ps) (hm : m ≤ ps.length) : RowF T w base (.slice A m c) (ps.take m) := by
  have hl : (ps.take m).length = m := by rw [List.length_take]; omega
  unfold RowF
  rw [hl]
  refine ⟨by rw [flat3_len, hl], ?_⟩
  rcases h.2 with ⟨e, h0⟩ | ⟨g, cap, cur, e, h1, h2, h3, h4, h5, h6⟩
  · injection e with e1 e2 e3
    subst e1; subst e3
    have : m = 0 := by omega
    subst this
    exact .inl ⟨rfl, rfl⟩
  · injection e with e1 e2 e3
    subst e1; subst e3
    refine .inr ⟨g, c, cur, rfl, h1, h2, by omega, h4, h5, ?_⟩
    rw [flat3_take, ← h6, List.take_take, Nat.min_eq_left (by omega)]
/-- A table whose rows the call owns, each in a block of its own, whatever its elements' limbs are. -/
structure TabK (T : TypeId) (w : World) (base : Nat) (TS : TypeId) (V : Value) (us : List Value) (pss : List (List Elt)) : Prop where
  row : RowV w base TS V us
  len : us.length = pss.length
  own : ∀ (i : Nat) (u : Value) (ps : List Elt), us[i]? = some u → pss[i]? = some ps → RowF T w base u ps
  apart : ∀ (i j : Nat) (u v : Value), i ≠ j → us[i]? = some u → us[j]? = some v → ∀ h, u.ownBlock = some h → v.ownBlock ≠ some h
theorem TabO.k {k : IntKind} {B : Nat} {T : TypeId} {w : World} {base : Nat} {TS : TypeId} {V : Value} {us : List Value} {pss : List (List Elt)} (h : TabO k B T w base TS V us pss) : TabK T w base TS V us pss := ⟨h.row, h.len, h.own, h.apart⟩
theorem TabK.mem {T : TypeId} {w : World} {base : Nat} {TS : TypeId} {V : Value} {us : List Value} {pss : List (List Elt)} (h : TabK T w base TS V us pss) {u : Value} (hu : u ∈ us) : ∃ ps, RowF T w base u ps := by
  obtain ⟨i, hi⟩ := List.mem_iff_getElem?.1 hu
  have hp : pss[i]? = some (pss[i]'(by rw [← h.len]; exact (List.getElem?_eq_some_iff.1 hi).1)) := List.getElem?_eq_getElem _
  exact ⟨_, h.own i u _ hi hp⟩
theorem RowV.kept {w w' : World} {base : Nat} {TS : TypeId} {V : Value} {us : List Value} {row : Option Nat} (h : RowV w base TS V us) (hg : w.grownBy w' row) (hV : ∀ g, V.ownBlock = some g → row ≠ some g) : RowV w' base TS V us :=
  World.ownsRow.kept (row := row) h hg (by
    cases hv : V.ownBlock with
    | none => exact .inl rfl
    | some g => exact .inr fun e => hV g hv e.symm)
theorem TabK.kept {T : TypeId} {w w' : World} {base : Nat} {TS : TypeId} {V : Value} {us : List Value} {pss : List (List Elt)} {row : Option Nat} (h : TabK T w base TS V us pss) (hg : w.grownBy w' row) (hV : ∀ g, V.ownBlock = some g → row ≠ some g) (hu : ∀ u ∈ us, ∀ g, u.ownBlock = some g → row ≠ some g) : TabK T w' base TS V us pss :=
  ⟨RowV.kept h.row hg hV, h.len, fun i u ps hi hp => (h.own i u ps hi hp).other hg (fun g e => hu u (List.mem_of_getElem? hi) g e), h.apart⟩
theorem TabK.below {T : TypeId} {w w' : World} {base : Nat} {TS : TypeId} {V : Value} {us : List Value} {pss : List (List Elt)} (h : TabK T w base TS V us pss) (hb : Below w.heap.size w w') : TabK T w' base TS V us pss :=
  ⟨h.row.below hb, h.len, fun i u ps hi hp => (h.own i u ps hi hp).below hb, h.apart⟩
theorem TabO.kept {k : IntKind} {B : Nat} {T : TypeId} {w w' : World} {base : Nat} {TS : TypeId} {V : Value} {us : List Value} {pss : List (List Elt)} {row : Option Nat} (h : TabO k B T w base TS V us pss) (hg : w.grownBy w' row) (hV : ∀ g, V.ownBlock = some g → row ≠ some g) (hu : ∀ u ∈ us, ∀ g, u.ownBlock = some g → row ≠ some g)
    (hf : ∀ ps ∈ pss, ∀ p ∈ ps, (∀ ad n c, p.2.1 = .slice (some ad) n c → 0 < n → some ad.block ≠ row) ∧ (∀ ad n c, p.2.2 = .slice (some ad) n c → 0 < n → some ad.block ≠ row)) : TabO k B T w' base TS V us pss := by
  have hk := h.k.kept hg hV hu
  refine ⟨hk.row, hk.len, hk.own, fun u hu' ps hp p hpp => ?_, fun ps hp p hpp => ?_, hk.apart⟩
  · obtain ⟨e1, f1⟩ := h.far u hu' ps hp p hpp
    exact ⟨⟨e1.1.farKept (hf ps hp p hpp).1 hg, e1.2.farKept (hf ps hp p hpp).2 hg⟩, f1⟩
  · obtain ⟨e1, f1⟩ := h.farV ps hp p hpp
    exact ⟨⟨e1.1.farKept (hf ps hp p hpp).1 hg, e1.2.farKept (hf ps hp p hpp).2 hg⟩, f1⟩
/-- A row of the call's own is put behind the others. -/
theorem TabO.snoc {k : IntKind} {B : Nat} {T : TypeId} {w w' : World} {base : Nat} {TS : TypeId} {V V' u : Value} {us : List Value} {pss : List (List Elt)} {ps : List Elt} (hT : T ≠ TS) (h : TabO k B T w base TS V us pss) (hrow : RowV w' base TS V' (us ++ [u])) (hg : Grew w w' V V') (hu : RowF T w base u ps)
    (hap : ∀ v ∈ us, ∀ g, v.ownBlock = some g → u.ownBlock ≠ some g) (hf1 : FarF k B w u ps) (hf2 : ∀ v ∈ us, ∀ p ∈ ps, Far v p.2.1 ∧ Far v p.2.2) (hf3 : ∀ p ∈ ps, Far V p.2.1 ∧ Far V p.2.2) (hf4 : ∀ qs ∈ pss, ∀ p ∈ qs, Far u p.2.1 ∧ Far u p.2.2) : TabO k B T w' base TS V' (us ++ [u]) (pss ++ [ps]) := by
  obtain ⟨k1, k2, k3⟩ := hg
  have hlen := h.len
  have own' : ∀ {v : Value} {qs : List Elt}, RowF T w base v qs → RowF T w' base v qs := fun r => r.other k2 fun g e e2 => r.notRow h.row hT g e e2
  have at_ : ∀ {i : Nat} {v : Value}, (us ++ [u])[i]? = some v → (us[i]? = some v ∧ i < us.length) ∨ (i = us.length ∧ v = u) := by
    intro i v hi
    by_cases hl : i < us.length
    · rw [List.getElem?_append_left hl] at hi
      exact .inl ⟨hi, hl⟩
    · rw [List.getElem?_append_right (by omega)] at hi
      rcases hj : i - us.length with _ | j
      · rw [hj] at hi
        refine .inr ⟨by omega, ?_⟩
        simpa using hi.symm
      · rw [hj] at hi; simp at hi
  have all : ∀ qs ∈ pss ++ [ps], ∀ p ∈ qs, (IsE k B w' p ∧ Far V' p.2.1 ∧ Far V' p.2.2) ∧ (∀ v ∈ us, Far v p.2.1 ∧ Far v p.2.2) ∧ Far u p.2.1 ∧ Far u p.2.2 := by
    intro qs hqs p hp
    have main : IsE k B w p → Far V p.2.1 → Far V p.2.2 → IsE k B w' p ∧ Far V' p.2.1 ∧ Far V' p.2.2 := fun a b c => by
      have x1 := k1 _ _ _ a.1 b
      have x2 := k1 _ _ _ a.2 c
      exact ⟨⟨x1.1, x2.1⟩, x1.2, x2.2⟩
    rcases List.mem_append.1 hqs with hqs | hqs
    · obtain ⟨e1, f1, f2⟩ := h.farV qs hqs p hp
      exact ⟨main e1 f1 f2, fun v hv => (h.far v hv qs hqs p hp).2, hf4 qs hqs p hp⟩
    · rw [List.mem_singleton.1 hqs] at hp
      obtain ⟨e1, f1, f2⟩ := hf1 p hp
      exact ⟨main e1 (hf3 p hp).1 (hf3 p hp).2, fun v hv => hf2 v hv p hp, f1, f2⟩
  refine ⟨hrow, by rw [List.length_append, List.length_append, hlen]; rfl, fun i v qs hv hq => ?_, fun v hv qs hqs p hp => ?_, fun qs hqs p hp => (all qs hqs p hp).1, fun i j a b hij ha hb g hga hgb => ?_⟩
  · rcases at_ hv with ⟨hv, hl⟩ | ⟨rfl, rfl⟩
    · rw [List.getElem?_append_left (by omega)] at hq
      exact own' (h.own i v qs hv hq)
    · rw [List.getElem?_append_right (by omega), hlen, Nat.sub_self] at hq
      obtain rfl : ps = qs := by simpa using hq
      exact own' hu
  · refine ⟨(all qs hqs p hp).1.1, ?_⟩
    rcases List.mem_append.1 hv with hv | hv
    · exact (all qs hqs p hp).2.1 v hv
    · rw [List.mem_singleton.1 hv]; exact (all qs hqs p hp).2.2
  · rcases at_ ha with ⟨ha1, hl⟩ | ⟨hi, rfl⟩
    · rcases at_ hb with ⟨hb1, hl2⟩ | ⟨hj, rfl⟩
      · exact h.apart i j a b hij ha1 hb1 g hga hgb
      · exact hap a (List.mem_of_getElem? ha1) g hga hgb
    · rcases at_ hb with ⟨hb1, hl2⟩ | ⟨hj, rfl⟩
      · exact hap b (List.mem_of_getElem? hb1) g hgb hga
      · exact hij (by omega)
set_option linter.unusedSimpArgs false
theorem ArgT.shape {w : World} {v : Value} (h : ArgT w v) : ∃ A n c, v = .slice A n c ∧ n ≤ c ∧ c ≤ maxLen := by
  obtain ⟨A, n, c, e, h1, h2, _⟩ := h
  exact ⟨A, n, c, e, h1, h2⟩
theorem RowV.notV {w : World} {base base' : Nat} {TS TS' : TypeId} {V U : Value} {us vs : List Value} (h : RowV w base TS V us) (h' : RowV w base' TS' U vs) (hne : TS ≠ TS') : ∀ g, V.ownBlock = some g → U.ownBlock ≠ some g := by
  intro g e e2
  rcases h.2 with ⟨rfl, _⟩ | ⟨g', cap, cur, rfl, _, hg, _⟩
  · cases e
  · rcases h'.2 with ⟨rfl, _⟩ | ⟨g2, cap2, cur2, rfl, _, hg2, _⟩
    · cases e2
    · have e1 : g' = g := by simpa [Value.ownBlock] using e
      have e3 : g2 = g := by simpa [Value.ownBlock] using e2
      subst e1; subst e3
      rw [hg] at hg2
      injection hg2 with hg2
      injection hg2 with _ hg2
      exact hne hg2
theorem RowV.slice {w : World} {base : Nat} {TS : TypeId} {V : Value} {us : List Value} (h : RowV w base TS V us) : ∃ A c, V = .slice A us.length c := by
  rcases h.2 with ⟨e, h0⟩ | ⟨g, cap, cur, e, _⟩
  · exact ⟨none, 0, by rw [e, h0]⟩
  · exact ⟨_, _, e⟩
/-- Two tables that grow side by side: each one's limbs lie elsewhere than both tables and all rows. -/
structure TwoTabO (w wr : World) (V U : Value) (us vs : List Value) (pss qss : List (List Elt)) : Prop where
  p : TabO .u64 4294967296 36 wr w.heap.size 53 V us pss
  q : TabO .i64 10000 47 wr w.heap.size 57 U vs qss
  c1 : ∀ ps ∈ pss, ∀ p ∈ ps, (∀ v ∈ vs, Far v p.2.1 ∧ Far v p.2.2) ∧ Far U p.2.1 ∧ Far U p.2.2
  c2 : ∀ qs ∈ qss, ∀ p ∈ qs, (∀ v ∈ us, Far v p.2.1 ∧ Far v p.2.2) ∧ Far V p.2.1 ∧ Far V p.2.2
  below : Below w.heap.size w wr
theorem TwoTabO.step {w wr w2 w3 w4 : World} {V U a b V3 U4 : Value} {us vs : List Value} {pss qss : List (List Elt)} {ps rs : List Elt} (h : TwoTabO w wr V U us vs pss qss) (hT : TwoRows wr w2 a b ps rs) (n1 : NewL wr.heap.size ps) (n2 : NewL wr.heap.size rs) (r3 : RowV w3 w.heap.size 53 V3 (us ++ [a])) (g3 : Grew w2 w3 V V3) (b3 : Below w.heap.size w2 w3) (r4 : RowV w4 w.heap.size 57 U4 (vs ++ [b])) (g4 : Grew w3 w4 U U4) (b4 : Below w.heap.size w3 w4) :
    TwoTabO w w4 V3 U4 (us ++ [a]) (vs ++ [b]) (pss ++ [ps]) (qss ++ [rs]) := by
  obtain ⟨t1, t2, ⟨t3, t4⟩, ⟨t5, t6⟩, t7, b2⟩ := hT
  have hw : w.heap.size ≤ wr.heap.size := h.below.size
  have pu : ∀ v ∈ us, ∀ g, v.ownBlock = some g → g < wr.heap.size := fun v hv g e => by
    obtain ⟨qs, hq⟩ := h.p.k.mem hv
    exact hq.under g e
  have qu : ∀ v ∈ vs, ∀ g, v.ownBlock = some g → g < wr.heap.size := fun v hv g e => by
    obtain ⟨qs, hq⟩ := h.q.k.mem hv
    exact hq.under g e
  have pV := h.p.row.under
  have qU := h.q.row.under
  have a0 := t1.base_le
  have b0 := t2.base_le
  have p2 := h.p.below b2
  have q2 := h.q.below b2
  have oldp : ∀ qs ∈ pss, ∀ p ∈ qs, IsE .u64 4294967296 wr p := fun qs hq p hp => (h.p.farV qs hq p hp).1
  have oldq : ∀ qs ∈ qss, ∀ p ∈ qs, IsE .i64 10000 wr p := fun qs hq p hp => (h.q.farV qs hq p hp).1
  have P3 := p2.snoc (by decide) r3 g3 (t1.weak hw) (fun v hv g e e2 => by have := pu v hv g e; have := a0 g e2; omega) t3 (fun v hv => n1.far (pu v hv)) (n1.far pV) (fun qs hq p hp => ⟨(oldp qs hq p hp).1.farOld a0, (oldp qs hq p hp).2.farOld a0⟩)
  have Q3 := q2.kept g3.2.1 (fun g e e2 => RowV.notV p2.row q2.row (by decide) g e2 e) (fun v hv g e e2 => by
    obtain ⟨qs, hq⟩ := q2.k.mem hv
    exact hq.notRow p2.row (by decide) g e e2) (fun qs hq p hp => ⟨(h.c2 qs hq p hp).2.1, (h.c2 qs hq p hp).2.2⟩)
  have hb3 : RowF 47 w3 wr.heap.size b rs := t2.other g3.2.1 fun g e e2 => t2.notRow p2.row (by decide) g e e2
  have n2V := n2.far pV
  have e3 : ∀ p ∈ rs, IsE .i64 10000 w3 p ∧ Far V3 p.2.1 ∧ Far V3 p.2.2 := fun p hp => by
    have x1 := g3.1 _ _ _ (t6 p hp).1.1 (n2V p hp).1
    have x2 := g3.1 _ _ _ (t6 p hp).1.2 (n2V p hp).2
    exact ⟨⟨x1.1, x2.1⟩, x1.2, x2.2⟩
  have Q4 := Q3.snoc (by decide) r4 g4 (hb3.weak hw) (fun v hv g e e2 => by have := qu v hv g e; have := b0 g e2; omega) (fun p hp => ⟨(e3 p hp).1, (t6 p hp).2⟩) (fun v hv => n2.far (qu v hv)) (n2.far qU) (fun qs hq p hp => ⟨(oldq qs hq p hp).1.farOld b0, (oldq qs hq p hp).2.farOld b0⟩)
  have n1U := n1.far qU
  have c1U : ∀ qs ∈ pss ++ [ps], ∀ p ∈ qs, Far U p.2.1 ∧ Far U p.2.2 := fun qs hq p hp => by
    rcases List.mem_append.1 hq with hq | hq
    · exact (h.c1 qs hq p hp).2
    · rw [List.mem_singleton.1 hq] at hp; exact n1U p hp
  have P4 := P3.kept g4.2.1 (fun g e e2 => RowV.notV P3.row Q3.row (by decide) g e e2) (fun v hv g e e2 => by
    obtain ⟨qs, hq⟩ := P3.k.mem hv
    exact hq.notRow Q3.row (by decide) g e e2) c1U
  refine ⟨P4, Q4, fun qs hq p hp => ?_, fun qs hq p hp => ?_, h.below.trans ((b2.mono hw).trans (b3.trans b4))⟩
  · have eU : Far U4 p.2.1 ∧ Far U4 p.2.2 := by
      have e1 := (P3.farV qs hq p hp).1
      exact ⟨(g4.1 _ _ _ e1.1 (c1U qs hq p hp).1).2, (g4.1 _ _ _ e1.2 (c1U qs hq p hp).2).2⟩
    refine ⟨fun v hv => ?_, eU⟩
    rcases List.mem_append.1 hq with hq | hq
    · rcases List.mem_append.1 hv with hv | hv
      · exact (h.c1 qs hq p hp).1 v hv
      · rw [List.mem_singleton.1 hv]; exact ⟨(oldp qs hq p hp).1.farOld b0, (oldp qs hq p hp).2.farOld b0⟩
    · rw [List.mem_singleton.1 hq] at hp
      rcases List.mem_append.1 hv with hv | hv
      · exact n1.far (qu v hv) p hp
      · rw [List.mem_singleton.1 hv]; exact (t4 p hp).2
  · rcases List.mem_append.1 hq with hq | hq
    · have eV : Far V3 p.2.1 ∧ Far V3 p.2.2 := by
        have e1 := (q2.farV qs hq p hp).1
        have f := (h.c2 qs hq p hp).2
        exact ⟨(g3.1 _ _ _ e1.1 f.1).2, (g3.1 _ _ _ e1.2 f.2).2⟩
      refine ⟨fun v hv => ?_, eV⟩
      rcases List.mem_append.1 hv with hv | hv
      · exact (h.c2 qs hq p hp).1 v hv
      · rw [List.mem_singleton.1 hv]; exact ⟨(oldq qs hq p hp).1.farOld a0, (oldq qs hq p hp).2.farOld a0⟩
    · rw [List.mem_singleton.1 hq] at hp
      refine ⟨fun v hv => ?_, (e3 p hp).2⟩
      rcases List.mem_append.1 hv with hv | hv
      · exact n2.far (pu v hv) p hp
      · rw [List.mem_singleton.1 hv]; exact (t5 p hp).2
/-- Two tables of the call's own, of the same small fractions, so many rows of so many places at most. -/
def RetFewX (M : Nat) (w : World) (e : Ending) (w' : World) : Prop := ∃ V U us vs pss qss, e = .returned (.tuple #[V, U]) ∧ TwoTabO w w' V U us vs pss qss ∧ valq qss = valq pss ∧ us.length ≤ M ∧ (∀ r ∈ valq pss, r.length ≤ M ∧ ∀ x ∈ r, lenQ x 1)
set_option maxHeartbeats 6400000 in
set_option maxRecDepth 100000 in
theorem fewt_own (a0 : Value) (M : Nat) (w : World) (h0 : ArgT w a0) (hM : M ≤ 8) :
    Calls Tryz.prog 17 #[a0, .int .i64 (M : Int)] w (RetFewX M w) := by
  have at0 := h0
  obtain ⟨A0, n0, c0, rfl, hc0, hm0⟩ := h0.shape
  unfold maxLen at hm0
  go_enter Tryz.func17, Tryz.ntmps17
  go_wp2
  go_loopw [6, 7, 8] (fun v6 v7 v8 wr => ∃ (k : Nat) (us vs : List Value) (pss qss : List (List Elt)), k ≤ n0 ∧ k ≤ M ∧ Hid (us.length = k) ∧ TwoTabO w wr v6 v7 us vs pss qss ∧ Hid (valq qss = valq pss) ∧ Hid (∀ r ∈ valq pss, r.length ≤ M ∧ ∀ x ∈ r, lenQ x 1) ∧ v8 = .int .i64 (k : Int)) (fun _ _ v8 _ => M - (intOf v8).toNat)
  case atStart =>
    have r0 := rowV_lit0 w w.heap.size 53 (Nat.le_refl _)
    have ba := below_alloc (w := w) (Nat.le_refl _) (.cells #[] 53)
    have r1 := rowV_lit0 (w.alloc (.cells #[] 53)) w.heap.size 57 ba.size
    have bb := below_alloc (w := w.alloc (.cells #[] 53)) (Nat.le_refl _) (.cells #[] 57)
    refine ⟨0, [], [], [], [], by omega, by omega, rfl, ⟨⟨r0.below bb, rfl, fun i u ps hu => by simp at hu, fun u hu => by simp at hu, fun u hu => by simp at hu, fun i j u v _ hu => by simp at hu⟩, ⟨?_, rfl, fun i u ps hu => by simp at hu, fun u hu => by simp at hu, fun u hu => by simp at hu, fun i j u v _ hu => by simp at hu⟩, fun ps hp => by simp at hp, fun ps hp => by simp at hp, ba.trans (bb.mono ba.size)⟩, rfl, (by show ∀ r ∈ _, _; intro r hr; simp [valq] at hr), rfl⟩
    simpa using r1
  case round =>
    obtain ⟨k, us, vs, pss, qss, hk, hkM, HUL, hT, HQP, HVL, rfl⟩ := hrel
    obtain ⟨A6, c6, e6⟩ := RowV.slice hT.p.row
    obtain ⟨A7, c7, e7⟩ := RowV.slice hT.q.row
    subst e6
    subst e7
    by_cases hlt : k < n0 ∧ k < M
    · obtain ⟨hlt1, hlt2⟩ := hlt
      obtain ⟨A_, n_, c_, e_, _, _, hel⟩ := at0.below hT.below
      injection e_ with e1 e2 e3
      subst e1; subst e2; subst e3
      obtain ⟨ad, ue, rfl, ec, hq⟩ := hel k hlt1
      have HT := Lib.hid hT
      clear hel hT
      obtain ⟨Aq, nq, cq, rfl, _⟩ := id hq
      go_wp2_with fail
      refine (few11_two Aq nq cq M _ hq hM).mono ?_
      rintro e w2 ⟨a, b, ps, rs, rfl, hTR, n1, n2, hrs, hpl, hlq⟩
      have b2 := hTR.2.2.2.2.2
      have hw2 : w.heap.size ≤ w2.heap.size := Nat.le_trans HT.out.below.size b2.size
      have P2 := HT.out.p.row.below b2
      have Q2 := HT.out.q.row.below b2
      have HTR := Lib.hid hTR
      have HULb : Hid (us.length ≤ 1000000000 ∧ vs.length ≤ 1000000000) := by
        have h1 := HUL.out
        have h2 := congrArg List.length HQP.out
        rw [valq_len, valq_len, ← HT.out.q.len, ← HT.out.p.len] at h2
        exact ⟨by omega, by omega⟩
      obtain ⟨Aa, ca, ea, _⟩ := hTR.1.isVF
      obtain ⟨Ab, cb, eb, _⟩ := hTR.2.1.isVF
      subst ea
      subst eb
      have HPL := Lib.hid hpl
      clear hTR ec hpl
      go_wp2_with (first
        | (at_builtin; refine wpList_append_w rfl (.tmp 33) (.tmp 35) rfl Tryz.underlying52 info_vec rfl P2 rfl rfl HULb.out.1 hw2 ?_; intro V3 w3 row3 b3 K3; have Q3 : RowV w3 w.heap.size 57 (.slice A7 vs.length c7) vs := RowV.kept Q2 K3.out.2.1 (fun g e e2 => RowV.notV P2 Q2 (by decide) g e2 e); have hw3 : w.heap.size ≤ w3.heap.size := Nat.le_trans hw2 b3.size)
        | (at_builtin; refine wpList_append_w rfl (.tmp 37) (.tmp 39) rfl Tryz.underlying54 info_veq rfl Q3 rfl rfl HULb.out.2 hw3 ?_; intro U4 w4 row4 b4 K4))
      have T4 := HT.out.step HTR.out n1 n2 row3 K3.out b3 row4 K4.out b4
      have HUL4 : Hid ((us ++ [Value.slice Aa ps.length ca]).length = k + 1) := by show _ = _; rw [List.length_append, HUL.out]; rfl
      have HQP4 : Hid (valq (qss ++ [rs]) = valq (pss ++ [ps])) := by
        show _ = _
        have h1 := HQP.out
        unfold valq at h1 ⊢
        rw [List.map_append, List.map_append, h1, List.map_cons, List.map_cons, hrs]; try rfl
      have HVL4 : Hid (∀ r ∈ valq (pss ++ [ps]), r.length ≤ M ∧ ∀ x ∈ r, lenQ x 1) := by
        show ∀ r ∈ _, _
        intro r hr
        unfold valq at hr
        rw [List.map_append] at hr
        rcases List.mem_append.1 hr with hr | hr
        · exact HVL.out r hr
        · obtain rfl : r = ps.map (·.1) := by simpa using hr
          refine ⟨by rw [List.length_map, HPL.out]; omega, fun x hx => ?_⟩
          obtain ⟨p, hp, rfl⟩ := List.mem_map.1 hx
          exact hlq p hp
      have hsk : M - (k + 1) < M - k := by omega
      clear P2 Q2 Q3 K3 K4 row3 row4 n1 n2 hlq hrs HTR
      go_wp2
      go_roundw
      case rel => exact ⟨k + 1, _, _, _, _, by omega, by omega, HUL4, T4, HQP4, HVL4, by go_num⟩
      case measure => simp [intOf]; omega
    · have hx : ¬ k < n0 ∨ (k < n0 ∧ ¬ k < M) := by omega
      have HEND : Hid (RetFewX M w (.returned (.tuple #[.slice A6 us.length c6, .slice A7 vs.length c7])) wr) := ⟨_, _, us, vs, pss, qss, rfl, hT, HQP.out, by rw [HUL.out]; exact hkM, HVL.out⟩
      clear hT HQP HVL
      rcases hx with hx | ⟨hx1, hx2⟩
      all_goals
        go_wp2
        go_ret2
        exact HEND.out
/-- The same, read only. -/
def RetFewT (M : Nat) (w : World) (e : Ending) (w' : World) : Prop := ∃ V U p, e = .returned (.tuple #[V, U]) ∧ SlT .u64 4294967296 w' V p ∧ SlT .i64 10000 w' U p ∧ p.length ≤ M ∧ (∀ r ∈ p, r.length ≤ M) ∧ lenT p 1 ∧ Below w.heap.size w w'
theorem fewt_any (a0 : Value) (M : Nat) (w : World) (h0 : ArgT w a0) (hM : M ≤ 8) : Calls Tryz.prog 17 #[a0, .int .i64 (M : Int)] w (RetFewT M w) :=
  (fewt_own a0 M w h0 hM).mono fun e w' h => by
    obtain ⟨V, U, us, vs, pss, qss, h1, h2, h3, h4, h5⟩ := h
    refine ⟨V, U, valq pss, h1, h2.p.slT, by rw [← h3]; exact h2.q.slT, by rw [valq_len, ← h2.p.len]; exact h4, fun r hr => (h5 r hr).1, fun r hr => (h5 r hr).2, h2.below⟩
end Go.Proofs.YtpcdkepkipadaaaGreat.rat
