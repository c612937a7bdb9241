/- Package vect: own, EqualFunc, Less, Same, Greatest. Condition: as each says.
Package matrix: what only reads: Size, fit, alike, Same; the document's Wide; the statements' even, Is. Condition: as each says.
Package matrix: whether a table may be (a function's value with a captured variable), Check. Condition: as each says.
Rows of one fraction written out in a region; a table's place; what the types of rows and tables are. Condition: as each says.
Package matrix: copied, bare, dots, Column. Condition: as each says.
Rows of the call's own that grow within a table of its own: how what was there stays. Condition: as each says.
Package matrix: appended. Condition: as each says.
Package matrix: joined, turned: rows of the call's own that grow within a table. Condition: as each says.
Package matrix: turned. Condition: as each says.
Package matrix: product, Ident, Add, Apply, Turn. Condition: as each says.
Package matrix: Add, Mul. Condition: as each says.
Package matrix: Beside. Condition: as each says.
Maps of fractions by row and place: a block that holds, by arrays of two numbers, what of a table is no nought; looked up, stored, struck. Condition: as each says.
Package sparse: among, made, cells, Size, Count, New. Condition: as each says.
Package sparse: copied, Get. Condition: as each says.
Package sparse: Put, More. Condition: as each says.
Rows of cells (a number, and a fraction: four cells each): a row of the call's own that grows by append. Condition: as each says.
Package sparse: fits, dot, Apply. Condition: as each says.
An argument as a slice of slices of fractions. Condition: it can be read as data.
An append to a row of slices of the call's own: how what was there stays. Condition: as it says.
Few: two rows of fractions of the call's own out of an argument; tables of such rows. Condition: as each says.
Few of a table: two tables of the call's own out of an argument. Condition: as it says.
Even: two tables of the call's own whose rows grow and are cut in place. Condition: as each says.
Package gauss: tables that a call changes row by row; first, own, square. Condition: as each says. -/
import Derived.Test.YtfnohdgnhdfpaaaGreatKP4
import Derived.Deep.RegionHeld3
import Derived.Maps.RangeWalk
import Derived.Maps.OwnSet
import Derived.WideKeyPair
import Derived.BigRegion
import Derived.WalkSpells
import Derived.Deep.CutRange
namespace Go.Proofs.YtfnohdgnhdfpaaaGreat.rat
open Go.RowKit Go.Proofs.YtfnohdgnhdfpaaaGreat.num Go.Proofs.YtfnohdgnhdfpaaaGreat.mem Go.Proofs.YtfnohdgnhdfpaaaGreat.nat Go.Proofs.YtfnohdgnhdfpaaaGreat.txt Go.Proofs.YtfnohdgnhdfpaaaGreat.str Go.Proofs.YtfnohdgnhdfpaaaGreat.flow Go.Proofs.YtfnohdgnhdfpaaaGreat.whl
set_option linter.unusedVariables false
set_option linter.unusedSimpArgs false
set_option maxHeartbeats 1600000 in
set_option maxRecDepth 100000 in
theorem vown_any (a0 : Value) (x : Rat) (w : World) (h0 : IsQ w a0 x) (hl : lenQ x 100000) :
    Calls Tryz.prog 156 #[a0] w (RetQ x w) := by
  obtain ⟨u0, t0, rfl, s0, r0⟩ := h0
  obtain ⟨A0, c0, rfl, _⟩ := id s0
  obtain ⟨D0, e0, rfl, _⟩ := id r0
  go_enter Tryz.func156, Tryz.ntmps156
  go_upto_region 1 with (fail)
  obtain ⟨wx, hwx, bb, B0, BR0, hsz⟩ := vars2 w 44 44 #[.bool (ngB (x).num), .slice A0 (digs 4294967296 (x).num.natAbs).length c0, .slice D0 (digs 4294967296 (x).den).length e0] #[.bool false, .slice none 0 0, .slice none 0 0]
  rw [hwx]
  clear hwx
  have k0s := s0.below bb
  have k0d := r0.below bb
  have k0z : IsZ wx (.agg #[.bool (ngB (x).num), .slice A0 (digs 4294967296 (x).num.natAbs).length c0]) (x).num := ⟨_, rfl, k0s⟩
  have k0 : IsQ wx (.agg #[.bool (ngB (x).num), .slice A0 (digs 4294967296 (x).num.natAbs).length c0, .slice D0 (digs 4294967296 (x).den).length e0]) (x) := ⟨_, _, rfl, k0s, k0d⟩
  have hsz0 := bb.size
  have sB := bb.size
  refine flow 13 [Pd.eq (.pointer (some ⟨w.heap.size, 0, none⟩)), Pd.eq (.pointer (some ⟨w.heap.size, 0, none⟩)), Pd.eq (.bool (ngB (x).num)), Pd.eq (.pointer (some ⟨w.heap.size, 0, none⟩)), Pd.eq (.pointer (some ⟨w.heap.size, 1, none⟩)), Pd.eq (.slice A0 (digs 4294967296 (x).num.natAbs).length c0), ps .u64 (digs 4294967296 (x).num.natAbs) wx.heap.size, Pd.eq (.pointer (some ⟨w.heap.size, 2, none⟩)), Pd.eq (.slice D0 (digs 4294967296 (x).den).length e0), ps .u64 (digs 4294967296 (x).den) wx.heap.size, Pd.eq (.bool (ngB (x).num)), ps .u64 (digs 4294967296 (x).num.natAbs) wx.heap.size, ps .u64 (digs 4294967296 (x).den) wx.heap.size] (by kernel_rfl) (by kernel_rfl) ?ob1 ?done1
  case ob1 =>
    refine And.intro (ob_fieldAddr rfl (wt_none rfl) (ev_far rfl rfl) (fun _ => by kernel_rfl) (fun _ => rfl)) ?_
    refine And.intro (ob_fieldAddr rfl (wt_none rfl) (ev_dep (j := 0) (by kernel_rfl) rfl rfl) (fun _ => by kernel_rfl) (fun _ => rfl)) ?_
    refine And.intro (ob_load rfl (wt_none rfl) (ev_dep (j := 1) (by kernel_rfl) rfl rfl) (fun w2 hb => run_load1 Tryz.underlying4 rfl ((B0.drew.below hb).cell 0)) (fun _ _ => rfl)) ?_
    refine And.intro (ob_fieldAddr rfl (wt_none rfl) (ev_far rfl rfl) (fun _ => by kernel_rfl) (fun _ => rfl)) ?_
    refine And.intro (ob_fieldAddr rfl (wt_none rfl) (ev_dep (j := 3) (by kernel_rfl) rfl rfl) (fun _ => by kernel_rfl) (fun _ => rfl)) ?_
    refine And.intro (ob_load rfl (wt_none rfl) (ev_dep (j := 4) (by kernel_rfl) rfl rfl) (fun w2 hb => run_load1 Tryz.underlying40 rfl ((B0.drew.below hb).cell 1)) (fun _ _ => rfl)) ?_
    refine And.intro (ob_call1 rfl Tryz.func122 (by kernel_rfl) (wt_none rfl) (ev_dep (j := 5) (by kernel_rfl) rfl rfl) (fun w2 u0 hb h0 => by obtain rfl := h0; exact (clone_any _ _ _ (k0s.drew.below hb) (Nat.le_trans hl.1 (by decide))).mono fun e w3 h => RetS.pd h hb.size)) ?_
    refine And.intro (ob_fieldAddr rfl (wt_none rfl) (ev_far rfl rfl) (fun _ => by kernel_rfl) (fun _ => rfl)) ?_
    refine And.intro (ob_load rfl (wt_none rfl) (ev_dep (j := 7) (by kernel_rfl) rfl rfl) (fun w2 hb => run_load1 Tryz.underlying40 rfl ((B0.drew.below hb).cell 2)) (fun _ _ => rfl)) ?_
    refine And.intro (ob_call1 rfl Tryz.func122 (by kernel_rfl) (wt_none rfl) (ev_dep (j := 8) (by kernel_rfl) rfl rfl) (fun w2 u0 hb h0 => by obtain rfl := h0; exact (clone_any _ _ _ (k0d.drew.below hb) (Nat.le_trans hl.2 (by decide))).mono fun e w3 h => RetS.pd h hb.size)) ?_
    refine And.intro (ob_assign rfl (wt_none rfl) (ev_dep (j := 2) (by kernel_rfl) rfl rfl) (fun _ _ h => h)) ?_
    refine And.intro (ob_assign rfl (wt_none rfl) (ev_dep (j := 6) (by kernel_rfl) rfl rfl) (fun _ _ h => h)) ?_
    refine And.intro (ob_assign rfl (wt_none rfl) (ev_dep (j := 9) (by kernel_rfl) rfl rfl) (fun _ _ h => h)) ?_
    trivial
  case done1 =>
    refine fun w1 hb1 v0 h0 v1 h1 v2 h2 v3 h3 v4 h4 v5 h5 v6 h6 v7 h7 v8 h8 v9 h9 v10 h10 v11 h11 v12 h12 b hbf => ?_
    obtain rfl := h0; obtain rfl := h1; obtain rfl := h2; obtain rfl := h3; obtain rfl := h4; obtain rfl := h5; obtain rfl := h7; obtain rfl := h8; obtain rfl := h10
    obtain ⟨q6, f6⟩ := h6
    obtain ⟨q9, f9⟩ := h9
    obtain ⟨q11, f11⟩ := h11
    obtain ⟨q12, f12⟩ := h12
    simp only [Act.put, List.setIfInBounds_toArray, List.set_cons_zero, List.set_cons_succ] at hbf
    subst hbf
    replace B0 := B0.below hb1
    replace k0s := k0s.below hb1
    replace k0d := k0d.below hb1
    replace k0z := k0z.below hb1
    replace k0 := k0.below hb1
    replace BR0 := BR0.below hb1
    replace bb := bb.trans (hb1.mono bb.size)
    have hsz1 := bb.size
    have s_6 := sB
    have s_9 := sB
    have s_11 := sB
    have s_12 := sB
    refine any_done (by kernel_rfl) ?_
    obtain ⟨A4, c4, rfl, _⟩ := id q11
    have n4 := q11
    have n4f := f11
    have n4z_ := s_11
    obtain ⟨A5, c5, rfl, _⟩ := id q12
    have n5 := q12
    have n5f := f12
    have n5z_ := s_12
    have sB := bb.size
    go_upto_region 2 with (fail)
    refine flowp 5 [Pd.eq (.bool (ngB (x).num)), Pd.eq (.slice A4 (digs 4294967296 (x).num.natAbs).length c4), Pd.eq (.agg #[.bool (ngB (x).num), .slice A4 (digs 4294967296 (x).num.natAbs).length c4]), Pd.eq (.slice A5 (digs 4294967296 (x).den).length c5), Pd.eq (.agg #[.bool (ngB (x).num), .slice A4 (digs 4294967296 (x).num.natAbs).length c4, .slice A5 (digs 4294967296 (x).den).length c5])] (by kernel_rfl) ?ob2 ?done2
    case ob2 =>
      refine And.intro (ob_move rfl (wt_none rfl) (ev_far rfl rfl) (fun _ _ h => h)) ?_
      refine And.intro (ob_move rfl (wt_none rfl) (ev_far rfl rfl) (fun _ _ h => h)) ?_
      refine And.intro (ob_build2b rfl (wt_none rfl) (ev_dep (j := 0) (by kernel_rfl) rfl rfl) (ev_dep (j := 1) (by kernel_rfl) rfl rfl) (fun w2 u v hb hu hv => by obtain rfl := hu; obtain rfl := hv; exact ⟨.agg #[.bool (ngB (x).num), .slice A4 (digs 4294967296 (x).num.natAbs).length c4], by kernel_rfl, rfl⟩)) ?_
      refine And.intro (ob_move rfl (wt_none rfl) (ev_far rfl rfl) (fun _ _ h => h)) ?_
      refine And.intro (ob_build2b rfl (wt_none rfl) (ev_dep (j := 2) (by kernel_rfl) rfl rfl) (ev_dep (j := 3) (by kernel_rfl) rfl rfl) (fun w2 u v hb hu hv => by obtain rfl := hu; obtain rfl := hv; exact ⟨.agg #[.bool (ngB (x).num), .slice A4 (digs 4294967296 (x).num.natAbs).length c4, .slice A5 (digs 4294967296 (x).den).length c5], by kernel_rfl, rfl⟩)) ?_
      trivial
    case done2 =>
      refine fun w2 hb2 v0 h0 v1 h1 v2 h2 v3 h3 v4 h4 b hbf => ?_
      obtain rfl := h0; obtain rfl := h1; obtain rfl := h2; obtain rfl := h3; obtain rfl := h4
      simp only [Act.put, List.setIfInBounds_toArray, List.set_cons_zero, List.set_cons_succ] at hbf
      subst hbf
      replace B0 := B0.below hb2
      replace k0s := k0s.below hb2
      replace k0d := k0d.below hb2
      replace k0z := k0z.below hb2
      replace k0 := k0.below hb2
      replace BR0 := BR0.below hb2
      replace n4 := n4.below hb2
      replace n5 := n5.below hb2
      replace bb := bb.trans (hb2.mono bb.size)
      have hsz2 := bb.size
      refine ops_store (i := 5) rfl rfl rfl rfl rfl rfl (cells := [.bool (ngB (x).num), .slice A4 (digs 4294967296 (x).num.natAbs).length c4, .slice A5 (digs 4294967296 (x).den).length c5]) rfl BR0 rfl (by kernel_rfl) (one3 rfl rfl rfl) fun w9 hg9 B9 => ?_
      have k9 := off n4 BR0 no_ints3 hg9
      have d9 := off n5 BR0 no_ints3 hg9
      have bb9 := bb.trans ((Below.refl _ _).grown hg9 bb.size (fun g hg => by injection hg with hg; omega))
      obtain ⟨C0, C1, C2, _, _, _⟩ := three B9
      refine ops_done ?_
      go_wp2
      exact bodyPost_ret (v := .agg #[.bool (ngB (x).num), .slice A4 (digs 4294967296 (x).num.natAbs).length c4, .slice A5 (digs 4294967296 (x).den).length c5]) (by simp [results, Tryz.results156, go_sem, C0, C1, C2]) rfl ⟨_, rfl, isQ_mk k9 d9 rfl rfl rfl, freshQ_mk (n4f.mono n4z_) (n5f.mono n5z_), bb9⟩
set_option maxHeartbeats 3200000 in
set_option maxRecDepth 100000 in
theorem fless_own (a0 a1 a2 : Value) (p : List Rat) (K : Rat) (q : List Rat) (m l n : Nat) (w : World) (h0 : SlF .u64 4294967296 w a0 p) (h1 : IsQ w a1 K) (h2 : SlF .u64 4294967296 w a2 q) (he : p.length = q.length) (hl : p.length ≤ 1000 ∧ (∀ x ∈ p, lenQ x m) ∧ lenQ K l ∧ (∀ x ∈ q, lenQ x n) ∧ m ≤ 4900 ∧ l + n ≤ 4900) :
    Calls Tryz.prog 139 #[a0, a1, a2] w (RetRN (lessq p K q) w) := by
  obtain ⟨u1, t1, rfl, s1, r1⟩ := h1
  obtain ⟨A1, c1, rfl, _⟩ := id s1
  obtain ⟨D1, e1, rfl, _⟩ := id r1
  have sl0 := h0
  obtain ⟨A0, c0, rfl, hc0, hm0⟩ := h0.shape
  unfold maxLen at hm0
  have sl2 := h2
  obtain ⟨A2, c2, rfl, hc2, hm2⟩ := h2.shape
  unfold maxLen at hm2
  have HNE : Hid ((((p.length : Nat) : Int) != ((q.length : Nat) : Int)) = false) := by show _ = _; rw [bne_eq_false_iff_eq]; omega
  have HE := Lib.hid he
  have HL := Lib.hid hl
  have lK : lenQ K l := hl.2.2.1
  have hm9 : m ≤ 4900 := hl.2.2.2.2.1
  have hn9 : l + n ≤ 4900 := hl.2.2.2.2.2
  have hl8 : p.length ≤ 1000 := hl.1
  have HRL : Hid ((lessq p K q).length = p.length) := lessq_len he
  clear hl he
  go_enter Tryz.func139, Tryz.ntmps139
  go_upto_region 1 with (fail)
  obtain ⟨wx, hwx, bb, B1, hsz⟩ := vars1 w 44 #[.bool (ngB (K).num), .slice A1 (digs 4294967296 (K).num.natAbs).length c1, .slice D1 (digs 4294967296 (K).den).length e1]
  rw [hwx]
  clear hwx
  have k1s := s1.below bb
  have k1d := r1.below bb
  have k1z : IsZ wx (.agg #[.bool (ngB (K).num), .slice A1 (digs 4294967296 (K).num.natAbs).length c1]) (K).num := ⟨_, rfl, k1s⟩
  have k1 : IsQ wx (.agg #[.bool (ngB (K).num), .slice A1 (digs 4294967296 (K).num.natAbs).length c1, .slice D1 (digs 4294967296 (K).den).length e1]) (K) := ⟨_, _, rfl, k1s, k1d⟩
  have hsz0 := bb.size
  have sB := bb.size
  refine flowp 5 [Pd.eq (.slice A0 p.length c0), Pd.eq (.int .i64 ((p.length : Nat) : Int)), Pd.eq (.slice A2 q.length c2), Pd.eq (.int .i64 ((q.length : Nat) : Int)), Pd.eq (.bool false)] (by kernel_rfl) ?ob4 ?done4
  case ob4 =>
    refine And.intro (ob_move rfl (wt_none rfl) (ev_far rfl rfl) (fun _ _ h => h)) ?_
    refine And.intro (ob_len rfl (wt_none rfl) (ev_dep (j := 0) (by kernel_rfl) rfl rfl) (fun _ _ hx => ⟨_, by rw [hx]; exact len_slice Tryz.underlying64 _ _ _ _, rfl⟩)) ?_
    refine And.intro (ob_move rfl (wt_none rfl) (ev_far rfl rfl) (fun _ _ h => h)) ?_
    refine And.intro (ob_len rfl (wt_none rfl) (ev_dep (j := 2) (by kernel_rfl) rfl rfl) (fun _ _ hx => ⟨_, by rw [hx]; exact len_slice Tryz.underlying64 _ _ _ _, rfl⟩)) ?_
    refine And.intro (ob_bin rfl (wt_none rfl) (ev_dep (j := 1) (by kernel_rfl) rfl rfl) (ev_dep (j := 3) (by kernel_rfl) rfl rfl) (fun _ _ _ hx hy => ⟨.bool false, by rw [hx, hy, bin_neq_int, HNE.out], rfl⟩)) ?_
    trivial
  case done4 =>
    refine fun w1 hb1 v0 h0 v1 h1 v2 h2 v3 h3 v4 h4 b hbf => ?_
    obtain rfl := h0; obtain rfl := h1; obtain rfl := h2; obtain rfl := h3; obtain rfl := h4
    simp only [Act.put, List.setIfInBounds_toArray, List.set_cons_zero, List.set_cons_succ] at hbf
    subst hbf
    replace B1 := B1.below hb1
    replace k1s := k1s.below hb1
    replace k1d := k1d.below hb1
    replace k1z := k1z.below hb1
    replace k1 := k1.below hb1
    replace bb := bb.trans (hb1.mono bb.size)
    have hsz1 := bb.size
    refine ops_done ?_
    go_wp2_with (at_make; refine wpList_make_q rfl _ _ rfl Tryz.underlying64 info_rat p.length rfl rfl (by omega) ?_; intro wm RN hbm)
    have hwg : w.heap.size ≤ w1.heap.size := bb.size
    have hlb4 := B1.lt
    replace B1 := B1.below hbm
    replace k1s := k1s.below hbm
    replace k1d := k1d.below hbm
    replace k1z := k1z.below hbm
    replace k1 := k1.below hbm
    replace bb := bb.trans (hbm.mono bb.size)
    have hsz2 := bb.size
    obtain ⟨g, hg⟩ : ∃ g, g = w1.heap.size := ⟨_, rfl⟩
    rw [← hg] at RN ⊢
    have hg_ : w1.heap.size ≤ g := by omega
    clear hg
    have hg := hg_
    clear hg_
    have hgw : w.heap.size ≤ g := by omega
    have RN0 : RowN wm g p.length ((lessq p K q).take 0) := RN
    clear RN
    go_wp2
    go_loopw [21] (fun v21 wr => ∃ k : Nat, k ≤ p.length ∧ RowN wr g p.length ((lessq p K q).take k) ∧ Blk wr (w.heap.size) 44 #[.bool (ngB (K).num), .slice A1 (digs 4294967296 (K).num.natAbs).length c1, .slice D1 (digs 4294967296 (K).den).length e1] ∧ Below w.heap.size w wr ∧ v21 = .int .i64 (k : Int)) (fun v21 _ => p.length - (intOf v21).toNat)
    case atStart => exact ⟨0, by omega, RN0, B1, bb, rfl⟩
    case round =>
      obtain ⟨k, hk, hR, hB4, hbw, rfl⟩ := hrel
      clear RN0 bb B1 k1s k1d k1z k1
      have RN := hR
      have bb := hbw
      clear hR hbw
      have B1 := hB4
      have k1s := s1.below bb
      have k1d := r1.below bb
      have k1z : IsZ wr (.agg #[.bool (ngB (K).num), .slice A1 (digs 4294967296 (K).num.natAbs).length c1]) (K).num := ⟨_, rfl, k1s⟩
      have k1 : IsQ wr (.agg #[.bool (ngB (K).num), .slice A1 (digs 4294967296 (K).num.natAbs).length c1, .slice D1 (digs 4294967296 (K).den).length e1]) (K) := ⟨_, _, rfl, k1s, k1d⟩
      have hlc4 := B1.lt
      clear hB4
      have hszr := bb.size
      have hgl := RN.lt
      by_cases hlt : k < p.length
      · obtain ⟨x, hq0_⟩ : ∃ x, p[k]? = some x := ⟨_, List.getElem?_eq_getElem hlt⟩
        obtain ⟨g0_, o0_, ue0, te0, hA0_, _, e00, e01, e02, es0, ed0⟩ := (sl0.below bb).at_ hq0_
        subst hA0_
        have HQ0 := Lib.hid hq0_
        clear hq0_
        obtain ⟨Ae0, ce0, rfl, _⟩ := id es0
        obtain ⟨De0, ee0, rfl, _⟩ := id ed0
        have ke0 : IsQ wr (.agg #[.bool (ngB x.num), .slice Ae0 (digs 4294967296 x.num.natAbs).length ce0, .slice De0 (digs 4294967296 x.den).length ee0]) x := ⟨_, _, rfl, es0, ed0⟩
        have hlt2 : k < q.length := by have := HE.out; omega
        obtain ⟨y, hy⟩ : ∃ y, q[k]? = some y := ⟨_, List.getElem?_eq_getElem hlt2⟩
        have HY := Lib.hid hy
        have lx : lenQ x m := HL.out.2.1 x (List.mem_of_getElem? HQ0.out)
        have ly : lenQ y n := HL.out.2.2.2.1 y (List.mem_of_getElem? hy)
        have lky : lenQ (K * y) (l + n) := lenQ_mul lK ly
        have HAT : Hid ((lessq p K q)[k]? = some (x - K * y)) := zip_at HQ0.out hy
        clear hy
        have hneq : q ≠ [] := List.length_pos_iff.1 (by omega)
        have HTK : Hid ((lessq p K q).take (k + 1) = (lessq p K q).take k ++ [(x - K * y)]) := take_snoc HAT.out
        have HLK : Hid (k = ((lessq p K q).take k).length) := by show _ = _; rw [List.length_take, HRL.out]; omega
        have sB := bb.size
        go_upto_region 6 with (fail)
        have lt3_4 := Blk.lt B1
        refine flowp 5 [Pd.eq (.int .i64 (k : Int)), Pd.eq (.pointer (some ⟨g0_, o0_ + k * 3, none⟩)), Pd.eq (.agg #[.bool (ngB x.num), .slice Ae0 (digs 4294967296 x.num.natAbs).length ce0, .slice De0 (digs 4294967296 x.den).length ee0]), pn 44 #[.bool false, .slice none 0 0, .slice none 0 0] wr.heap.size, Pd.eq (.int .i64 (k : Int))] (by kernel_rfl) ?ob5 ?done5
        case ob5 =>
          refine And.intro (ob_move rfl (wt_none rfl) (ev_far rfl rfl) (fun _ _ h => h)) ?_
          refine And.intro (ob_indexAddr rfl (wt_none rfl) (ev_far rfl rfl) (ev_far rfl rfl) (fun _ _ _ hx hy => ⟨_, by rw [hx, hy]; exact index3 Tryz.underlying64 (by kernel_rfl) hlt _, rfl⟩)) ?_
          refine And.intro (ob_load rfl (wt_none rfl) (ev_dep (j := 1) (by kernel_rfl) rfl rfl) (fun w2 hb => load3 Tryz.underlying44 rfl (by kernel_rfl) ((hb.cell (World.block_lt_of_cell? wr _ e00)).trans e00) ((hb.cell (World.block_lt_of_cell? wr _ e01)).trans e01) ((hb.cell (World.block_lt_of_cell? wr _ e02)).trans e02)) (fun _ _ => rfl)) ?_
          refine And.intro (ob_alloc (z := .agg #[.bool false, .slice none 0 0, .slice none 0 0]) rfl rfl (fun _ => by kernel_rfl) (fun _ _ hB h => ⟨_, rfl, hB, h⟩)) ?_
          refine And.intro (ob_assign rfl (wt_none rfl) (ev_dep (j := 0) (by kernel_rfl) rfl rfl) (fun _ _ h => h)) ?_
          trivial
        case done5 =>
          refine fun w4 hb4 v0 h0 v1 h1 v2 h2 v3 h3 d3 v4 h4 b hbf => ?_
          obtain rfl := h0; obtain rfl := h1; obtain rfl := h2; obtain rfl := h4
          obtain ⟨g5_3, rfl, hg3, B3⟩ := h3
          simp only [Act.put, List.setIfInBounds_toArray, List.set_cons_zero, List.set_cons_succ] at hbf
          subst hbf
          replace B1 := B1.below hb4
          replace k1s := k1s.below hb4
          replace k1d := k1d.below hb4
          replace k1z := k1z.below hb4
          replace k1 := k1.below hb4
          replace RN := RN.below hb4
          replace es0 := es0.below hb4
          replace ed0 := ed0.below hb4
          replace bb := bb.trans (hb4.mono bb.size)
          have hsz4 := bb.size
          have BA10 := B3
          have q2 := es0
          have d2 := ed0
          refine ops_store (i := 5) rfl rfl rfl rfl rfl rfl (cells := [.bool (ngB (x).num), .slice Ae0 (digs 4294967296 (x).num.natAbs).length ce0, .slice De0 (digs 4294967296 (x).den).length ee0]) rfl BA10 rfl (by kernel_rfl) (one3 rfl rfl rfl) fun w5 hg5 BN5 => ?_
          replace q2 := off q2 BA10 no_ints3 hg5
          replace d2 := off d2 BA10 no_ints3 hg5
          replace RN := RowN.offb RN BA10 no_ints3 hg5 (by omega)
          replace k1s := off k1s BA10 no_ints3 hg5
          replace k1d := off k1d BA10 no_ints3 hg5
          replace k1z : IsZ w5 (.agg #[.bool (ngB (K).num), .slice A1 (digs 4294967296 (K).num.natAbs).length c1]) ((K).num) := ⟨_, rfl, k1s⟩
          replace k1 : IsQ w5 (.agg #[.bool (ngB (K).num), .slice A1 (digs 4294967296 (K).num.natAbs).length c1, .slice D1 (digs 4294967296 (K).den).length e1]) (K) := ⟨_, _, rfl, k1s, k1d⟩
          replace B1 := B1.grown hg5 (by omega)
          replace bb := bb.trans ((Below.refl _ _).grown hg5 bb.size (fun g hg => by injection hg with hg; omega))
          have hsz5 := bb.size
          have Be0 : Blk w5 (g5_3) _ _ := BN5
          have ke0s := q2
          have ke0d := d2
          have ke0z : IsZ w5 (.agg #[.bool (ngB (x).num), .slice Ae0 (digs 4294967296 (x).num.natAbs).length ce0]) ((x).num) := ⟨_, rfl, ke0s⟩
          have ke0 : IsQ w5 (.agg #[.bool (ngB (x).num), .slice Ae0 (digs 4294967296 (x).num.natAbs).length ce0, .slice De0 (digs 4294967296 (x).den).length ee0]) (x) := ⟨_, _, rfl, ke0s, ke0d⟩
          refine ops_done ?_
          have hle := Be0.lt
          have hneE : g ≠ g5_3 := by omega
          obtain ⟨g2_, o2_, cp2_, hA2_, _, _, _⟩ := sl2.place hneq
          injection hA2_ with e1_ _ e3_
          subst e1_
          subst e3_
          obtain ⟨uy, ty, hlty, zy0, zy1, zy2, zys, zyd⟩ := (sl2.below bb).at2 HY.out
          obtain ⟨Ay, cy, rfl, _⟩ := id zys
          obtain ⟨Dy, ey, rfl, _⟩ := id zyd
          have zy : IsQ w5 (.agg #[.bool (ngB (y).num), .slice Ay (digs 4294967296 (y).num.natAbs).length cy, .slice Dy (digs 4294967296 (y).den).length ey]) (y) := ⟨_, _, rfl, zys, zyd⟩
          by_cases hv : K * y = 0
          · have HV : Hid (true = decide (K * y = 0)) := (decide_eq_true hv).symm
            have HXE : Hid (x = x - K * y) := by show _ = _; rw [hv]; grind
            clear hv
            have sB := bb.size
            go_upto_region 7 with (fail)
            refine flow 6 [Pd.eq (.agg #[.bool (ngB (K).num), .slice A1 (digs 4294967296 (K).num.natAbs).length c1, .slice D1 (digs 4294967296 (K).den).length e1]), Pd.eq (.slice (some ⟨g2_, o2_, none⟩) q.length c2), Pd.eq (.int .i64 (k : Int)), Pd.eq (.pointer (some ⟨g2_, o2_ + k * 3, none⟩)), Pd.eq (.agg #[.bool (ngB (y).num), .slice Ay (digs 4294967296 (y).num.natAbs).length cy, .slice Dy (digs 4294967296 (y).den).length ey]), Pd.eq (.bool true)] (by kernel_rfl) (by kernel_rfl) ?ob6 ?done6
            case ob6 =>
              refine And.intro (ob_load rfl (wt_none rfl) (ev_far rfl rfl) (fun w2 hb => run_loadAll Tryz.underlying44 rfl (by kernel_rfl) (B1.drew.below hb)) (fun _ _ => rfl)) ?_
              refine And.intro (ob_move rfl (wt_none rfl) (ev_far rfl rfl) (fun _ _ h => h)) ?_
              refine And.intro (ob_move rfl (wt_none rfl) (ev_far rfl rfl) (fun _ _ h => h)) ?_
              refine And.intro (ob_indexAddr rfl (wt_none rfl) (ev_dep (j := 1) (by kernel_rfl) rfl rfl) (ev_dep (j := 2) (by kernel_rfl) rfl rfl) (fun _ _ _ hx hy => ⟨_, by rw [hx, hy]; exact index3 (k := k) Tryz.underlying64 (by kernel_rfl) hlty _, rfl⟩)) ?_
              refine And.intro (ob_load rfl (wt_none rfl) (ev_dep (j := 3) (by kernel_rfl) rfl rfl) (fun w2 hb => load3 Tryz.underlying44 rfl (by kernel_rfl) ((hb.cell (World.block_lt_of_cell? w5 _ zy0)).trans zy0) ((hb.cell (World.block_lt_of_cell? w5 _ zy1)).trans zy1) ((hb.cell (World.block_lt_of_cell? w5 _ zy2)).trans zy2)) (fun _ _ => rfl)) ?_
              refine And.intro (ob_call2 rfl Tryz.func148 (by kernel_rfl) (wt_none rfl) (ev_dep (j := 0) (by kernel_rfl) rfl rfl) (ev_dep (j := 4) (by kernel_rfl) rfl rfl) (fun w2 u0 u1 hb h0 h1 => by obtain rfl := h0; obtain rfl := h1; exact (vanishes_any _ _ (K) (y) true _ (k1.drew.below hb) (zy.drew.below hb) HV.out).mono fun e w3 h => RetV.pd h)) ?_
              trivial
            case done6 =>
              refine fun w7 hb7 v0 h0 v1 h1 v2 h2 v3 h3 v4 h4 v5 h5 b hbf => ?_
              obtain rfl := h0; obtain rfl := h1; obtain rfl := h2; obtain rfl := h3; obtain rfl := h4; obtain rfl := h5
              simp only [Act.put, List.setIfInBounds_toArray, List.set_cons_zero, List.set_cons_succ] at hbf
              subst hbf
              replace B1 := B1.below hb7
              replace k1s := k1s.below hb7
              replace k1d := k1d.below hb7
              replace k1z := k1z.below hb7
              replace k1 := k1.below hb7
              replace Be0 := Be0.below hb7
              replace ke0s := ke0s.below hb7
              replace ke0d := ke0d.below hb7
              replace ke0z := ke0z.below hb7
              replace ke0 := ke0.below hb7
              replace RN := RN.below hb7
              replace bb := bb.trans (hb7.mono bb.size)
              have hsz7 := bb.size
              refine any_done (by kernel_rfl) ?_
              clear zy zy0 zy1 zy2 zys zyd
              have sB := bb.size
              go_upto_region 8 with (fail)
              refine flowp 5 [Pd.eq (.slice (some ⟨g, 0, none⟩) p.length p.length), Pd.eq (.int .i64 (k : Int)), Pd.eq (.agg #[.bool (ngB (x).num), .slice Ae0 (digs 4294967296 (x).num.natAbs).length ce0, .slice De0 (digs 4294967296 (x).den).length ee0]), pq ((x - K * y)) w7.heap.size, Pd.eq (.pointer (some ⟨g, 0 + k * 3, none⟩))] (by kernel_rfl) ?ob7 ?done7
              case ob7 =>
                refine And.intro (ob_move rfl (wt_none rfl) (ev_far rfl rfl) (fun _ _ h => h)) ?_
                refine And.intro (ob_move rfl (wt_none rfl) (ev_far rfl rfl) (fun _ _ h => h)) ?_
                refine And.intro (ob_load rfl (wt_none rfl) (ev_far rfl rfl) (fun w2 hb => run_loadAll Tryz.underlying44 rfl (by kernel_rfl) (Be0.below hb)) (fun _ _ => rfl)) ?_
                refine And.intro (ob_call1 rfl Tryz.func156 (by kernel_rfl) (wt_none rfl) (ev_dep (j := 2) (by kernel_rfl) rfl rfl) (fun w2 u0 hb h0 => by obtain rfl := h0; exact (vown_any _ x _ (ke0.below hb) (lx.mono (by omega))).mono fun e w3 h => RetQ.pd (h.to HXE.out) hb.size)) ?_
                refine And.intro (ob_indexAddr rfl (wt_none rfl) (ev_dep (j := 0) (by kernel_rfl) rfl rfl) (ev_dep (j := 1) (by kernel_rfl) rfl rfl) (fun _ _ _ hx hy => ⟨_, by rw [hx, hy]; exact index3 (k := k) Tryz.underlying64 (by kernel_rfl) hlt _, rfl⟩)) ?_
                trivial
              case done7 =>
                refine fun w8 hb8 v0 h0 v1 h1 v2 h2 v3 h3 v4 h4 b hbf => ?_
                obtain rfl := h0; obtain rfl := h1; obtain rfl := h2; obtain rfl := h4
                obtain ⟨q3, f3⟩ := h3
                simp only [Act.put, List.setIfInBounds_toArray, List.set_cons_zero, List.set_cons_succ] at hbf
                subst hbf
                replace B1 := B1.below hb8
                replace k1s := k1s.below hb8
                replace k1d := k1d.below hb8
                replace k1z := k1z.below hb8
                replace k1 := k1.below hb8
                replace Be0 := Be0.below hb8
                replace ke0s := ke0s.below hb8
                replace ke0d := ke0d.below hb8
                replace ke0z := ke0z.below hb8
                replace ke0 := ke0.below hb8
                replace RN := RN.below hb8
                replace bb := bb.trans (hb8.mono bb.size)
                have hsz8 := bb.size
                have s_3 := sB
                obtain ⟨u3, t3, rfl, q3, d3⟩ := q3
                obtain ⟨A9, c9, rfl, _⟩ := id q3
                obtain ⟨D9, e9, rfl, _⟩ := id d3
                refine ops_store_q (j := 5) rfl rfl rfl rfl (g := g) (i := k) (q := (x - K * y)) rfl rfl (by kernel_rfl) RN hlt q3 d3 fun w9 hg9 hP9 => ?_
                replace k1s := RN.keep hg9 k1s
                replace k1d := RN.keep hg9 k1d
                replace k1z : IsZ w9 (.agg #[.bool (ngB (K).num), .slice A1 (digs 4294967296 (K).num.natAbs).length c1]) ((K).num) := ⟨_, rfl, k1s⟩
                replace k1 : IsQ w9 (.agg #[.bool (ngB (K).num), .slice A1 (digs 4294967296 (K).num.natAbs).length c1, .slice D1 (digs 4294967296 (K).den).length e1]) (K) := ⟨_, _, rfl, k1s, k1d⟩
                replace B1 := B1.grown hg9 (by omega)
                replace ke0s := RN.keep hg9 ke0s
                replace ke0d := RN.keep hg9 ke0d
                replace ke0z : IsZ w9 (.agg #[.bool (ngB (x).num), .slice Ae0 (digs 4294967296 (x).num.natAbs).length ce0]) ((x).num) := ⟨_, rfl, ke0s⟩
                replace ke0 : IsQ w9 (.agg #[.bool (ngB (x).num), .slice Ae0 (digs 4294967296 (x).num.natAbs).length ce0, .slice De0 (digs 4294967296 (x).den).length ee0]) (x) := ⟨_, _, rfl, ke0s, ke0d⟩
                replace Be0 := Be0.grown hg9 (by omega)
                replace bb := bb.trans ((Below.refl _ _).grown hg9 bb.size (fun g hg => by injection hg with hg; omega))
                have hsz9 := bb.size
                replace RN := hP9.1 HLK.out
                clear hP9
                refine ops_done ?_
                rw [← HTK.out] at RN
                have hsk : p.length - (k + 1) < p.length - k := by omega
                go_wp2
                go_roundw
                case rel => exact ⟨k + 1, by omega, RN, B1, bb, by go_num⟩
                case measure => simp [intOf]; omega
          · have HV : Hid (false = decide (K * y = 0)) := (decide_eq_false hv).symm
            clear hv
            have sB := bb.size
            go_upto_region 7 with (fail)
            refine flow 6 [Pd.eq (.agg #[.bool (ngB (K).num), .slice A1 (digs 4294967296 (K).num.natAbs).length c1, .slice D1 (digs 4294967296 (K).den).length e1]), Pd.eq (.slice (some ⟨g2_, o2_, none⟩) q.length c2), Pd.eq (.int .i64 (k : Int)), Pd.eq (.pointer (some ⟨g2_, o2_ + k * 3, none⟩)), Pd.eq (.agg #[.bool (ngB (y).num), .slice Ay (digs 4294967296 (y).num.natAbs).length cy, .slice Dy (digs 4294967296 (y).den).length ey]), Pd.eq (.bool false)] (by kernel_rfl) (by kernel_rfl) ?ob8 ?done8
            case ob8 =>
              refine And.intro (ob_load rfl (wt_none rfl) (ev_far rfl rfl) (fun w2 hb => run_loadAll Tryz.underlying44 rfl (by kernel_rfl) (B1.drew.below hb)) (fun _ _ => rfl)) ?_
              refine And.intro (ob_move rfl (wt_none rfl) (ev_far rfl rfl) (fun _ _ h => h)) ?_
              refine And.intro (ob_move rfl (wt_none rfl) (ev_far rfl rfl) (fun _ _ h => h)) ?_
              refine And.intro (ob_indexAddr rfl (wt_none rfl) (ev_dep (j := 1) (by kernel_rfl) rfl rfl) (ev_dep (j := 2) (by kernel_rfl) rfl rfl) (fun _ _ _ hx hy => ⟨_, by rw [hx, hy]; exact index3 (k := k) Tryz.underlying64 (by kernel_rfl) hlty _, rfl⟩)) ?_
              refine And.intro (ob_load rfl (wt_none rfl) (ev_dep (j := 3) (by kernel_rfl) rfl rfl) (fun w2 hb => load3 Tryz.underlying44 rfl (by kernel_rfl) ((hb.cell (World.block_lt_of_cell? w5 _ zy0)).trans zy0) ((hb.cell (World.block_lt_of_cell? w5 _ zy1)).trans zy1) ((hb.cell (World.block_lt_of_cell? w5 _ zy2)).trans zy2)) (fun _ _ => rfl)) ?_
              refine And.intro (ob_call2 rfl Tryz.func148 (by kernel_rfl) (wt_none rfl) (ev_dep (j := 0) (by kernel_rfl) rfl rfl) (ev_dep (j := 4) (by kernel_rfl) rfl rfl) (fun w2 u0 u1 hb h0 h1 => by obtain rfl := h0; obtain rfl := h1; exact (vanishes_any _ _ (K) (y) false _ (k1.drew.below hb) (zy.drew.below hb) HV.out).mono fun e w3 h => RetV.pd h)) ?_
              trivial
            case done8 =>
              refine fun w7 hb7 v0 h0 v1 h1 v2 h2 v3 h3 v4 h4 v5 h5 b hbf => ?_
              obtain rfl := h0; obtain rfl := h1; obtain rfl := h2; obtain rfl := h3; obtain rfl := h4; obtain rfl := h5
              simp only [Act.put, List.setIfInBounds_toArray, List.set_cons_zero, List.set_cons_succ] at hbf
              subst hbf
              replace B1 := B1.below hb7
              replace k1s := k1s.below hb7
              replace k1d := k1d.below hb7
              replace k1z := k1z.below hb7
              replace k1 := k1.below hb7
              replace Be0 := Be0.below hb7
              replace ke0s := ke0s.below hb7
              replace ke0d := ke0d.below hb7
              replace ke0z := ke0z.below hb7
              replace ke0 := ke0.below hb7
              replace RN := RN.below hb7
              replace bb := bb.trans (hb7.mono bb.size)
              have hsz7 := bb.size
              refine any_done (by kernel_rfl) ?_
              clear zy zy0 zy1 zy2 zys zyd
              obtain ⟨ub, tb, hltb, zb0, zb1, zb2, zbs, zbd⟩ := (sl2.below bb).at2 HY.out
              obtain ⟨Ab, cb, rfl, _⟩ := id zbs
              obtain ⟨Db, eb, rfl, _⟩ := id zbd
              have zb : IsQ w7 (.agg #[.bool (ngB (y).num), .slice Ab (digs 4294967296 (y).num.natAbs).length cb, .slice Db (digs 4294967296 (y).den).length eb]) (y) := ⟨_, _, rfl, zbs, zbd⟩
              have sB := bb.size
              go_upto_region 9 with (fail)
              refine flow 11 [Pd.eq (.slice (some ⟨g, 0, none⟩) p.length p.length), Pd.eq (.int .i64 (k : Int)), Pd.eq (.agg #[.bool (ngB (x).num), .slice Ae0 (digs 4294967296 (x).num.natAbs).length ce0, .slice De0 (digs 4294967296 (x).den).length ee0]), Pd.eq (.agg #[.bool (ngB (K).num), .slice A1 (digs 4294967296 (K).num.natAbs).length c1, .slice D1 (digs 4294967296 (K).den).length e1]), Pd.eq (.slice (some ⟨g2_, o2_, none⟩) q.length c2), Pd.eq (.int .i64 (k : Int)), Pd.eq (.pointer (some ⟨g2_, o2_ + k * 3, none⟩)), Pd.eq (.agg #[.bool (ngB (y).num), .slice Ab (digs 4294967296 (y).num.natAbs).length cb, .slice Db (digs 4294967296 (y).den).length eb]), pqn (K * y), pq ((x - K * y)) w7.heap.size, Pd.eq (.pointer (some ⟨g, 0 + k * 3, none⟩))] (by kernel_rfl) (by kernel_rfl) ?ob9 ?done9
              case ob9 =>
                refine And.intro (ob_move rfl (wt_none rfl) (ev_far rfl rfl) (fun _ _ h => h)) ?_
                refine And.intro (ob_move rfl (wt_none rfl) (ev_far rfl rfl) (fun _ _ h => h)) ?_
                refine And.intro (ob_load rfl (wt_none rfl) (ev_far rfl rfl) (fun w2 hb => run_loadAll Tryz.underlying44 rfl (by kernel_rfl) (Be0.drew.below hb)) (fun _ _ => rfl)) ?_
                refine And.intro (ob_load rfl (wt_none rfl) (ev_far rfl rfl) (fun w2 hb => run_loadAll Tryz.underlying44 rfl (by kernel_rfl) (B1.drew.below hb)) (fun _ _ => rfl)) ?_
                refine And.intro (ob_move rfl (wt_none rfl) (ev_far rfl rfl) (fun _ _ h => h)) ?_
                refine And.intro (ob_move rfl (wt_none rfl) (ev_far rfl rfl) (fun _ _ h => h)) ?_
                refine And.intro (ob_indexAddr rfl (wt_none rfl) (ev_dep (j := 4) (by kernel_rfl) rfl rfl) (ev_dep (j := 5) (by kernel_rfl) rfl rfl) (fun _ _ _ hx hy => ⟨_, by rw [hx, hy]; exact index3 (k := k) Tryz.underlying64 (by kernel_rfl) hltb _, rfl⟩)) ?_
                refine And.intro (ob_load rfl (wt_none rfl) (ev_dep (j := 6) (by kernel_rfl) rfl rfl) (fun w2 hb => load3 Tryz.underlying44 rfl (by kernel_rfl) ((hb.cell (World.block_lt_of_cell? w7 _ zb0)).trans zb0) ((hb.cell (World.block_lt_of_cell? w7 _ zb1)).trans zb1) ((hb.cell (World.block_lt_of_cell? w7 _ zb2)).trans zb2)) (fun _ _ => rfl)) ?_
                refine And.intro (ob_call2 rfl Tryz.func35 (by kernel_rfl) (wt_none rfl) (ev_dep (j := 3) (by kernel_rfl) rfl rfl) (ev_dep (j := 7) (by kernel_rfl) rfl rfl) (fun w2 u0 u1 hb h0 h1 => by obtain rfl := h0; obtain rfl := h1; exact (mul8_any _ K _ y _ (k1.drew.below hb) (zb.drew.below hb) (lK.mono (by omega)) (ly.mono (by omega))).mono fun e w3 h => RetQn.pd h.n)) ?_
                refine And.intro (ob_call2 rfl Tryz.func157 (by kernel_rfl) (wt_none rfl) (ev_dep (j := 2) (by kernel_rfl) rfl rfl) (ev_dep (j := 8) (by kernel_rfl) rfl rfl) (fun w2 u0 u1 hb h0 h1 => by obtain rfl := h0; exact (sub9_any _ x _ (K * y) _ (ke0.drew.below hb) h1 (lx.mono (by omega)) (lky.mono (by omega))).mono fun e w3 h => RetQ.pd h hb.size)) ?_
                refine And.intro (ob_indexAddr rfl (wt_none rfl) (ev_dep (j := 0) (by kernel_rfl) rfl rfl) (ev_dep (j := 1) (by kernel_rfl) rfl rfl) (fun _ _ _ hx hy => ⟨_, by rw [hx, hy]; exact index3 (k := k) Tryz.underlying64 (by kernel_rfl) hlt _, rfl⟩)) ?_
                trivial
              case done9 =>
                refine fun w8 hb8 v0 h0 v1 h1 v2 h2 v3 h3 v4 h4 v5 h5 v6 h6 v7 h7 v8 h8 v9 h9 v10 h10 b hbf => ?_
                obtain rfl := h0; obtain rfl := h1; obtain rfl := h2; obtain rfl := h3; obtain rfl := h4; obtain rfl := h5; obtain rfl := h6; obtain rfl := h7; obtain rfl := h10
                have q8 := h8
                obtain ⟨q9, f9⟩ := h9
                simp only [Act.put, List.setIfInBounds_toArray, List.set_cons_zero, List.set_cons_succ] at hbf
                subst hbf
                replace B1 := B1.below hb8
                replace k1s := k1s.below hb8
                replace k1d := k1d.below hb8
                replace k1z := k1z.below hb8
                replace k1 := k1.below hb8
                replace Be0 := Be0.below hb8
                replace ke0s := ke0s.below hb8
                replace ke0d := ke0d.below hb8
                replace ke0z := ke0z.below hb8
                replace ke0 := ke0.below hb8
                replace RN := RN.below hb8
                replace bb := bb.trans (hb8.mono bb.size)
                have hsz8 := bb.size
                have s_9 := sB
                obtain ⟨u9, t9, rfl, q9, d9⟩ := q9
                obtain ⟨A9, c9, rfl, _⟩ := id q9
                obtain ⟨D9, e9, rfl, _⟩ := id d9
                refine any_store_q (j := 11) (by kernel_rfl) rfl rfl rfl rfl (g := g) (i := k) (q := (x - K * y)) rfl rfl (by kernel_rfl) RN hlt q9 d9 fun w9 hg9 hP9 => ?_
                replace k1s := RN.keep hg9 k1s
                replace k1d := RN.keep hg9 k1d
                replace k1z : IsZ w9 (.agg #[.bool (ngB (K).num), .slice A1 (digs 4294967296 (K).num.natAbs).length c1]) ((K).num) := ⟨_, rfl, k1s⟩
                replace k1 : IsQ w9 (.agg #[.bool (ngB (K).num), .slice A1 (digs 4294967296 (K).num.natAbs).length c1, .slice D1 (digs 4294967296 (K).den).length e1]) (K) := ⟨_, _, rfl, k1s, k1d⟩
                replace B1 := B1.grown hg9 (by omega)
                replace ke0s := RN.keep hg9 ke0s
                replace ke0d := RN.keep hg9 ke0d
                replace ke0z : IsZ w9 (.agg #[.bool (ngB (x).num), .slice Ae0 (digs 4294967296 (x).num.natAbs).length ce0]) ((x).num) := ⟨_, rfl, ke0s⟩
                replace ke0 : IsQ w9 (.agg #[.bool (ngB (x).num), .slice Ae0 (digs 4294967296 (x).num.natAbs).length ce0, .slice De0 (digs 4294967296 (x).den).length ee0]) (x) := ⟨_, _, rfl, ke0s, ke0d⟩
                replace Be0 := Be0.grown hg9 (by omega)
                replace bb := bb.trans ((Below.refl _ _).grown hg9 bb.size (fun g hg => by injection hg with hg; omega))
                have hsz9 := bb.size
                replace RN := hP9.1 HLK.out
                clear hP9
                refine any_done (by kernel_rfl) ?_
                rw [← HTK.out] at RN
                have hsk : p.length - (k + 1) < p.length - k := by omega
                go_wp2
                go_roundw
                case rel => exact ⟨k + 1, by omega, RN, B1, bb, by go_num⟩
                case measure => simp [intOf]; omega
      · rw [List.take_of_length_le (by rw [HRL.out]; omega)] at RN
        have HRN : Hid (RowN wr g (lessq p K q).length (lessq p K q)) := by
          show RowN _ _ _ _
          rw [HRL.out]; exact RN
        clear RN
        go_wp2
        go_ret2
        exact ⟨g, by rw [HRL.out]; rfl, HRN.out, hgw, bb⟩
set_option maxHeartbeats 3200000 in
set_option maxRecDepth 100000 in
theorem eqf_any (a0 a1 : Value) (p q : List Rat) (b : Bool) (w : World) (h0 : SlF .u64 4294967296 w a0 p) (h1 : SlF .u64 4294967296 w a1 q) (hb : b = decide (p = q)) :
    Calls Tryz.prog 119 #[a0, a1, .func (.func 31) #[] #[]] w (RetV (.bool b) w) := by
  have bb : Below w.heap.size w w := Below.refl _ _
  have sl0 := h0
  obtain ⟨A0, c0, rfl, hc0, hm0⟩ := h0.shape
  unfold maxLen at hm0
  have sl1 := h1
  obtain ⟨A1, c1, rfl, hc1, hm1⟩ := h1.shape
  unfold maxLen at hm1
  have HB := Lib.hid hb
  clear hb
  go_enter Tryz.func119, Tryz.ntmps119
  go_upto_region 1 with (fail)
  have hsz0 := bb.size
  by_cases he : p.length = q.length
  · have HNE : Hid ((((p.length : Nat) : Int) != ((q.length : Nat) : Int)) = false) := by show _ = _; rw [bne_eq_false_iff_eq]; omega
    have HE := Lib.hid he
    clear he
    have sB := bb.size
    refine flowp 5 [Pd.eq (.slice A0 p.length c0), Pd.eq (.int .i64 ((p.length : Nat) : Int)), Pd.eq (.slice A1 q.length c1), Pd.eq (.int .i64 ((q.length : Nat) : Int)), Pd.eq (.bool false)] (by kernel_rfl) ?ob11 ?done11
    case ob11 =>
      refine And.intro (ob_move rfl (wt_none rfl) (ev_far rfl rfl) (fun _ _ h => h)) ?_
      refine And.intro (ob_len rfl (wt_none rfl) (ev_dep (j := 0) (by kernel_rfl) rfl rfl) (fun _ _ hx => ⟨_, by rw [hx]; exact len_slice Tryz.underlying64 _ _ _ _, rfl⟩)) ?_
      refine And.intro (ob_move rfl (wt_none rfl) (ev_far rfl rfl) (fun _ _ h => h)) ?_
      refine And.intro (ob_len rfl (wt_none rfl) (ev_dep (j := 2) (by kernel_rfl) rfl rfl) (fun _ _ hx => ⟨_, by rw [hx]; exact len_slice Tryz.underlying64 _ _ _ _, rfl⟩)) ?_
      refine And.intro (ob_bin rfl (wt_none rfl) (ev_dep (j := 1) (by kernel_rfl) rfl rfl) (ev_dep (j := 3) (by kernel_rfl) rfl rfl) (fun _ _ _ hx hy => ⟨.bool false, by rw [hx, hy, bin_neq_int, HNE.out], rfl⟩)) ?_
      trivial
    case done11 =>
      refine fun w2 hb2 v0 h0 v1 h1 v2 h2 v3 h3 v4 h4 b hbf => ?_
      obtain rfl := h0; obtain rfl := h1; obtain rfl := h2; obtain rfl := h3; obtain rfl := h4
      simp only [Act.put, List.setIfInBounds_toArray, List.set_cons_zero, List.set_cons_succ] at hbf
      subst hbf
      replace bb := bb.trans (hb2.mono bb.size)
      have hsz2 := bb.size
      refine ops_done ?_
      go_wp2
      go_loopw [17] (fun v17 wr => ∃ k : Nat, k ≤ p.length ∧ Hid (p.take k = q.take k) ∧ Below w.heap.size w wr ∧ v17 = .int .i64 (k : Int)) (fun v17 _ => p.length - (intOf v17).toNat)
      case atStart => exact ⟨0, by omega, rfl, bb, rfl⟩
      case round =>
        obtain ⟨k, hk, HA, hbw, rfl⟩ := hrel
        clear bb
        have bb := hbw
        clear hbw
        have hszr := bb.size
        by_cases hlt : k < p.length
        · have hlt2 : k < q.length := by have := HE.out; omega
          have hneq : q ≠ [] := List.length_pos_iff.1 (by omega)
          obtain ⟨y, hy⟩ : ∃ y, q[k]? = some y := ⟨_, List.getElem?_eq_getElem hlt2⟩
          have HY := Lib.hid hy
          clear hy
          obtain ⟨x, hq0_⟩ : ∃ x, p[k]? = some x := ⟨_, List.getElem?_eq_getElem hlt⟩
          obtain ⟨g0_, o0_, ue0, te0, hA0_, _, e00, e01, e02, es0, ed0⟩ := (sl0.below bb).at_ hq0_
          subst hA0_
          have HQ0 := Lib.hid hq0_
          clear hq0_
          obtain ⟨Ae0, ce0, rfl, _⟩ := id es0
          obtain ⟨De0, ee0, rfl, _⟩ := id ed0
          have ke0 : IsQ wr (.agg #[.bool (ngB x.num), .slice Ae0 (digs 4294967296 x.num.natAbs).length ce0, .slice De0 (digs 4294967296 x.den).length ee0]) x := ⟨_, _, rfl, es0, ed0⟩
          have sB := bb.size
          go_upto_region 5 with (fail)
          refine flowp 5 [Pd.eq (.int .i64 (k : Int)), Pd.eq (.pointer (some ⟨g0_, o0_ + k * 3, none⟩)), Pd.eq (.agg #[.bool (ngB x.num), .slice Ae0 (digs 4294967296 x.num.natAbs).length ce0, .slice De0 (digs 4294967296 x.den).length ee0]), pn 44 #[.bool false, .slice none 0 0, .slice none 0 0] wr.heap.size, Pd.eq (.int .i64 (k : Int))] (by kernel_rfl) ?ob12 ?done12
          case ob12 =>
            refine And.intro (ob_move rfl (wt_none rfl) (ev_far rfl rfl) (fun _ _ h => h)) ?_
            refine And.intro (ob_indexAddr rfl (wt_none rfl) (ev_far rfl rfl) (ev_far rfl rfl) (fun _ _ _ hx hy => ⟨_, by rw [hx, hy]; exact index3 Tryz.underlying64 (by kernel_rfl) hlt _, rfl⟩)) ?_
            refine And.intro (ob_load rfl (wt_none rfl) (ev_dep (j := 1) (by kernel_rfl) rfl rfl) (fun w2 hb => load3 Tryz.underlying44 rfl (by kernel_rfl) ((hb.cell (World.block_lt_of_cell? wr _ e00)).trans e00) ((hb.cell (World.block_lt_of_cell? wr _ e01)).trans e01) ((hb.cell (World.block_lt_of_cell? wr _ e02)).trans e02)) (fun _ _ => rfl)) ?_
            refine And.intro (ob_alloc (z := .agg #[.bool false, .slice none 0 0, .slice none 0 0]) rfl rfl (fun _ => by kernel_rfl) (fun _ _ hB h => ⟨_, rfl, hB, h⟩)) ?_
            refine And.intro (ob_assign rfl (wt_none rfl) (ev_dep (j := 0) (by kernel_rfl) rfl rfl) (fun _ _ h => h)) ?_
            trivial
          case done12 =>
            refine fun w4 hb4 v0 h0 v1 h1 v2 h2 v3 h3 d3 v4 h4 b hbf => ?_
            obtain rfl := h0; obtain rfl := h1; obtain rfl := h2; obtain rfl := h4
            obtain ⟨g12_3, rfl, hg3, B3⟩ := h3
            simp only [Act.put, List.setIfInBounds_toArray, List.set_cons_zero, List.set_cons_succ] at hbf
            subst hbf
            replace es0 := es0.below hb4
            replace ed0 := ed0.below hb4
            replace bb := bb.trans (hb4.mono bb.size)
            have hsz4 := bb.size
            have BA8 := B3
            have q2 := es0
            have d2 := ed0
            refine ops_store (i := 5) rfl rfl rfl rfl rfl rfl (cells := [.bool (ngB (x).num), .slice Ae0 (digs 4294967296 (x).num.natAbs).length ce0, .slice De0 (digs 4294967296 (x).den).length ee0]) rfl BA8 rfl (by kernel_rfl) (one3 rfl rfl rfl) fun w5 hg5 BN5 => ?_
            replace q2 := off q2 BA8 no_ints3 hg5
            replace d2 := off d2 BA8 no_ints3 hg5
            replace bb := bb.trans ((Below.refl _ _).grown hg5 bb.size (fun g hg => by injection hg with hg; omega))
            have hsz5 := bb.size
            have Be0 : Blk w5 (g12_3) _ _ := BN5
            have ke0s := q2
            have ke0d := d2
            have ke0z : IsZ w5 (.agg #[.bool (ngB (x).num), .slice Ae0 (digs 4294967296 (x).num.natAbs).length ce0]) ((x).num) := ⟨_, rfl, ke0s⟩
            have ke0 : IsQ w5 (.agg #[.bool (ngB (x).num), .slice Ae0 (digs 4294967296 (x).num.natAbs).length ce0, .slice De0 (digs 4294967296 (x).den).length ee0]) (x) := ⟨_, _, rfl, ke0s, ke0d⟩
            refine ops_done ?_
            obtain ⟨g1_, o1_, cp1_, hA1_, _, _, _⟩ := sl1.place hneq
            injection hA1_ with e1_ _ e3_
            subst e1_
            subst e3_
            obtain ⟨uy, ty, hlty, zy0, zy1, zy2, zys, zyd⟩ := (sl1.below bb).at2 HY.out
            obtain ⟨Ay, cy, rfl, _⟩ := id zys
            obtain ⟨Dy, ey, rfl, _⟩ := id zyd
            have zy : IsQ w5 (.agg #[.bool (ngB (y).num), .slice Ay (digs 4294967296 (y).num.natAbs).length cy, .slice Dy (digs 4294967296 (y).den).length ey]) (y) := ⟨_, _, rfl, zys, zyd⟩
            have sB := bb.size
            go_upto_region 6 with (fail)
            have lt5_8 := Blk.lt Be0
            refine flowp 5 [Pd.eq (.slice (some ⟨g1_, o1_, none⟩) q.length c1), Pd.eq (.int .i64 (k : Int)), Pd.eq (.pointer (some ⟨g1_, o1_ + k * 3, none⟩)), Pd.eq (.agg #[.bool (ngB (y).num), .slice Ay (digs 4294967296 (y).num.natAbs).length cy, .slice Dy (digs 4294967296 (y).den).length ey]), pn 44 #[.bool false, .slice none 0 0, .slice none 0 0] w5.heap.size] (by kernel_rfl) ?ob13 ?done13
            case ob13 =>
              refine And.intro (ob_move rfl (wt_none rfl) (ev_far rfl rfl) (fun _ _ h => h)) ?_
              refine And.intro (ob_move rfl (wt_none rfl) (ev_far rfl rfl) (fun _ _ h => h)) ?_
              refine And.intro (ob_indexAddr rfl (wt_none rfl) (ev_dep (j := 0) (by kernel_rfl) rfl rfl) (ev_dep (j := 1) (by kernel_rfl) rfl rfl) (fun _ _ _ hx hy => ⟨_, by rw [hx, hy]; exact index3 (k := k) Tryz.underlying64 (by kernel_rfl) hlty _, rfl⟩)) ?_
              refine And.intro (ob_load rfl (wt_none rfl) (ev_dep (j := 2) (by kernel_rfl) rfl rfl) (fun w2 hb => load3 Tryz.underlying44 rfl (by kernel_rfl) ((hb.cell (World.block_lt_of_cell? w5 _ zy0)).trans zy0) ((hb.cell (World.block_lt_of_cell? w5 _ zy1)).trans zy1) ((hb.cell (World.block_lt_of_cell? w5 _ zy2)).trans zy2)) (fun _ _ => rfl)) ?_
              refine And.intro (ob_alloc (z := .agg #[.bool false, .slice none 0 0, .slice none 0 0]) rfl rfl (fun _ => by kernel_rfl) (fun _ _ hB h => ⟨_, rfl, hB, h⟩)) ?_
              trivial
            case done13 =>
              refine fun w6 hb6 v0 h0 v1 h1 v2 h2 v3 h3 v4 h4 d4 b hbf => ?_
              obtain rfl := h0; obtain rfl := h1; obtain rfl := h2; obtain rfl := h3
              obtain ⟨g13_4, rfl, hg4, B4⟩ := h4
              simp only [Act.put, List.setIfInBounds_toArray, List.set_cons_zero, List.set_cons_succ] at hbf
              subst hbf
              replace Be0 := Be0.below hb6
              replace ke0s := ke0s.below hb6
              replace ke0d := ke0d.below hb6
              replace ke0z := ke0z.below hb6
              replace ke0 := ke0.below hb6
              replace zys := zys.below hb6
              replace zyd := zyd.below hb6
              replace bb := bb.trans (hb6.mono bb.size)
              have hsz6 := bb.size
              have BA9 := B4
              have q3 := zys
              have d3 := zyd
              refine ops_store (i := 5) rfl rfl rfl rfl rfl rfl (cells := [.bool (ngB (y).num), .slice Ay (digs 4294967296 (y).num.natAbs).length cy, .slice Dy (digs 4294967296 (y).den).length ey]) rfl BA9 rfl (by kernel_rfl) (one3 rfl rfl rfl) fun w7 hg7 BN7 => ?_
              replace q3 := off q3 BA9 no_ints3 hg7
              replace d3 := off d3 BA9 no_ints3 hg7
              replace ke0s := off ke0s BA9 no_ints3 hg7
              replace ke0d := off ke0d BA9 no_ints3 hg7
              replace ke0z : IsZ w7 (.agg #[.bool (ngB (x).num), .slice Ae0 (digs 4294967296 (x).num.natAbs).length ce0]) ((x).num) := ⟨_, rfl, ke0s⟩
              replace ke0 : IsQ w7 (.agg #[.bool (ngB (x).num), .slice Ae0 (digs 4294967296 (x).num.natAbs).length ce0, .slice De0 (digs 4294967296 (x).den).length ee0]) (x) := ⟨_, _, rfl, ke0s, ke0d⟩
              replace Be0 := Be0.grown hg7 (by omega)
              replace bb := bb.trans ((Below.refl _ _).grown hg7 bb.size (fun g hg => by injection hg with hg; omega))
              have hsz7 := bb.size
              have By : Blk w7 (g13_4) _ _ := BN7
              have kys := q3
              have kyd := d3
              have kyz : IsZ w7 (.agg #[.bool (ngB (y).num), .slice Ay (digs 4294967296 (y).num.natAbs).length cy]) ((y).num) := ⟨_, rfl, kys⟩
              have ky : IsQ w7 (.agg #[.bool (ngB (y).num), .slice Ay (digs 4294967296 (y).num.natAbs).length cy, .slice Dy (digs 4294967296 (y).den).length ey]) (y) := ⟨_, _, rfl, kys, kyd⟩
              refine ops_done ?_
              obtain ⟨u, hu⟩ : ∃ u, u = decide (x = y) := ⟨_, rfl⟩
              have HU := Lib.hid hu
              by_cases hxy : x = y
              · have HA2 : Hid (p.take (k + 1) = q.take (k + 1)) := by show _ = _; rw [take_snoc HQ0.out, take_snoc HY.out, HA.out, hxy]
                rw [decide_eq_true hxy] at hu
                subst hu
                clear hxy
                have sB := bb.size
                go_upto_region 7 with (fail)
                refine flowp 5 [Pd.eq (.func (.func 31) #[] #[]), Pd.eq (.agg #[.bool (ngB (x).num), .slice Ae0 (digs 4294967296 (x).num.natAbs).length ce0, .slice De0 (digs 4294967296 (x).den).length ee0]), Pd.eq (.agg #[.bool (ngB (y).num), .slice Ay (digs 4294967296 (y).num.natAbs).length cy, .slice Dy (digs 4294967296 (y).den).length ey]), Pd.eq (.bool true), Pd.eq (.bool false)] (by kernel_rfl) ?ob14 ?done14
                case ob14 =>
                  refine And.intro (ob_move rfl (wt_none rfl) (ev_far rfl rfl) (fun _ _ h => h)) ?_
                  refine And.intro (ob_load rfl (wt_none rfl) (ev_far rfl rfl) (fun w2 hb => run_loadAll Tryz.underlying44 rfl (by kernel_rfl) (Be0.below hb)) (fun _ _ => rfl)) ?_
                  refine And.intro (ob_load rfl (wt_none rfl) (ev_far rfl rfl) (fun w2 hb => run_loadAll Tryz.underlying44 rfl (by kernel_rfl) (By.below hb)) (fun _ _ => rfl)) ?_
                  refine And.intro (ob_callv2 rfl (ev_dep (j := 0) (by kernel_rfl) rfl rfl) Tryz.func31 (by kernel_rfl) (wt_none rfl) (ev_dep (j := 1) (by kernel_rfl) rfl rfl) (ev_dep (j := 2) (by kernel_rfl) rfl rfl) (fun w2 u0 u1 hb h0 h1 => by obtain rfl := h0; obtain rfl := h1; exact (same8_any _ _ x y true _ (ke0.below hb) (ky.below hb) HU.out).mono fun e w3 h => RetV.pd h)) ?_
                  refine And.intro (ob_un rfl (wt_none rfl) (ev_dep (j := 3) (by kernel_rfl) rfl rfl) (fun _ => un_not _ _) (fun _ => rfl)) ?_
                  trivial
                case done14 =>
                  refine fun w9 hb9 v0 h0 v1 h1 v2 h2 v3 h3 v4 h4 b hbf => ?_
                  obtain rfl := h0; obtain rfl := h1; obtain rfl := h2; obtain rfl := h3; obtain rfl := h4
                  simp only [Act.put, List.setIfInBounds_toArray, List.set_cons_zero, List.set_cons_succ] at hbf
                  subst hbf
                  replace Be0 := Be0.below hb9
                  replace ke0s := ke0s.below hb9
                  replace ke0d := ke0d.below hb9
                  replace ke0z := ke0z.below hb9
                  replace ke0 := ke0.below hb9
                  replace By := By.below hb9
                  replace kys := kys.below hb9
                  replace kyd := kyd.below hb9
                  replace kyz := kyz.below hb9
                  replace ky := ky.below hb9
                  replace bb := bb.trans (hb9.mono bb.size)
                  have hsz9 := bb.size
                  refine ops_done ?_
                  have hsk : p.length - (k + 1) < p.length - k := by omega
                  go_wp2
                  go_roundw
                  case rel => exact ⟨k + 1, by omega, HA2, bb, by go_num⟩
                  case measure => simp [intOf]; omega
              · have HW : Hid (b = false) := by
                  show _ = _
                  rw [HB.out]
                  refine decide_eq_false fun e => ?_
                  have h0 := HQ0.out
                  rw [e, HY.out] at h0
                  exact hxy (Option.some.inj h0).symm
                rw [decide_eq_false hxy] at hu
                subst hu
                clear hxy
                have sB := bb.size
                go_upto_region 7 with (fail)
                refine flowp 5 [Pd.eq (.func (.func 31) #[] #[]), Pd.eq (.agg #[.bool (ngB (x).num), .slice Ae0 (digs 4294967296 (x).num.natAbs).length ce0, .slice De0 (digs 4294967296 (x).den).length ee0]), Pd.eq (.agg #[.bool (ngB (y).num), .slice Ay (digs 4294967296 (y).num.natAbs).length cy, .slice Dy (digs 4294967296 (y).den).length ey]), Pd.eq (.bool false), Pd.eq (.bool true)] (by kernel_rfl) ?ob15 ?done15
                case ob15 =>
                  refine And.intro (ob_move rfl (wt_none rfl) (ev_far rfl rfl) (fun _ _ h => h)) ?_
                  refine And.intro (ob_load rfl (wt_none rfl) (ev_far rfl rfl) (fun w2 hb => run_loadAll Tryz.underlying44 rfl (by kernel_rfl) (Be0.below hb)) (fun _ _ => rfl)) ?_
                  refine And.intro (ob_load rfl (wt_none rfl) (ev_far rfl rfl) (fun w2 hb => run_loadAll Tryz.underlying44 rfl (by kernel_rfl) (By.below hb)) (fun _ _ => rfl)) ?_
                  refine And.intro (ob_callv2 rfl (ev_dep (j := 0) (by kernel_rfl) rfl rfl) Tryz.func31 (by kernel_rfl) (wt_none rfl) (ev_dep (j := 1) (by kernel_rfl) rfl rfl) (ev_dep (j := 2) (by kernel_rfl) rfl rfl) (fun w2 u0 u1 hb h0 h1 => by obtain rfl := h0; obtain rfl := h1; exact (same8_any _ _ x y false _ (ke0.below hb) (ky.below hb) HU.out).mono fun e w3 h => RetV.pd h)) ?_
                  refine And.intro (ob_un rfl (wt_none rfl) (ev_dep (j := 3) (by kernel_rfl) rfl rfl) (fun _ => un_not _ _) (fun _ => rfl)) ?_
                  trivial
                case done15 =>
                  refine fun w9 hb9 v0 h0 v1 h1 v2 h2 v3 h3 v4 h4 b hbf => ?_
                  obtain rfl := h0; obtain rfl := h1; obtain rfl := h2; obtain rfl := h3; obtain rfl := h4
                  simp only [Act.put, List.setIfInBounds_toArray, List.set_cons_zero, List.set_cons_succ] at hbf
                  subst hbf
                  replace Be0 := Be0.below hb9
                  replace ke0s := ke0s.below hb9
                  replace ke0d := ke0d.below hb9
                  replace ke0z := ke0z.below hb9
                  replace ke0 := ke0.below hb9
                  replace By := By.below hb9
                  replace kys := kys.below hb9
                  replace kyd := kyd.below hb9
                  replace kyz := kyz.below hb9
                  replace ky := ky.below hb9
                  replace bb := bb.trans (hb9.mono bb.size)
                  have hsz9 := bb.size
                  refine ops_done ?_
                  go_wp2
                  go_ret
                  exact ⟨by rw [HW.out]; rfl, bb⟩
        · have HW : Hid (b = true) := by
            show _ = _
            rw [HB.out]
            have := HA.out
            rw [List.take_of_length_le (by omega), List.take_of_length_le (by have := HE.out; omega)] at this
            exact decide_eq_true this
          go_wp2
          go_ret
          exact ⟨by rw [HW.out]; rfl, bb⟩
  · have HNE : Hid ((((p.length : Nat) : Int) != ((q.length : Nat) : Int)) = true) := by show _ = _; rw [bne_iff_ne]; omega
    have HW : Hid (b = false) := by show _ = _; rw [HB.out]; exact decide_eq_false fun e => he (by rw [e])
    clear he
    have sB := bb.size
    refine flowp 5 [Pd.eq (.slice A0 p.length c0), Pd.eq (.int .i64 ((p.length : Nat) : Int)), Pd.eq (.slice A1 q.length c1), Pd.eq (.int .i64 ((q.length : Nat) : Int)), Pd.eq (.bool true)] (by kernel_rfl) ?ob10 ?done10
    case ob10 =>
      refine And.intro (ob_move rfl (wt_none rfl) (ev_far rfl rfl) (fun _ _ h => h)) ?_
      refine And.intro (ob_len rfl (wt_none rfl) (ev_dep (j := 0) (by kernel_rfl) rfl rfl) (fun _ _ hx => ⟨_, by rw [hx]; exact len_slice Tryz.underlying64 _ _ _ _, rfl⟩)) ?_
      refine And.intro (ob_move rfl (wt_none rfl) (ev_far rfl rfl) (fun _ _ h => h)) ?_
      refine And.intro (ob_len rfl (wt_none rfl) (ev_dep (j := 2) (by kernel_rfl) rfl rfl) (fun _ _ hx => ⟨_, by rw [hx]; exact len_slice Tryz.underlying64 _ _ _ _, rfl⟩)) ?_
      refine And.intro (ob_bin rfl (wt_none rfl) (ev_dep (j := 1) (by kernel_rfl) rfl rfl) (ev_dep (j := 3) (by kernel_rfl) rfl rfl) (fun _ _ _ hx hy => ⟨.bool true, by rw [hx, hy, bin_neq_int, HNE.out], rfl⟩)) ?_
      trivial
    case done10 =>
      refine fun w2 hb2 v0 h0 v1 h1 v2 h2 v3 h3 v4 h4 b hbf => ?_
      obtain rfl := h0; obtain rfl := h1; obtain rfl := h2; obtain rfl := h3; obtain rfl := h4
      simp only [Act.put, List.setIfInBounds_toArray, List.set_cons_zero, List.set_cons_succ] at hbf
      subst hbf
      replace bb := bb.trans (hb2.mono bb.size)
      have hsz2 := bb.size
      refine ops_done ?_
      go_wp2
      go_ret
      exact ⟨by rw [HW.out]; rfl, bb⟩
set_option maxHeartbeats 1600000 in
set_option maxRecDepth 100000 in
theorem fvsame_gen (a0 a1 : Value) (p q : List Rat) (b : Bool) (w : World) (h0 : SlF .u64 4294967296 w a0 p) (h1 : SlF .u64 4294967296 w a1 q) (hb : b = decide (p = q)) :
    Calls Tryz.prog 73 #[a0, a1] w (RetV (.bool b) w) := by
  have bb : Below w.heap.size w w := Below.refl _ _
  have sl0 := h0
  obtain ⟨A0, c0, rfl, hc0, hm0⟩ := h0.shape
  unfold maxLen at hm0
  have sl1 := h1
  obtain ⟨A1, c1, rfl, hc1, hm1⟩ := h1.shape
  unfold maxLen at hm1
  have HB := Lib.hid hb
  clear hb
  go_enter Tryz.func73, Tryz.ntmps73
  go_upto_region 1 with (fail)
  have hsz0 := bb.size
  have k0 := sl0.below bb
  have k1 := sl1.below bb
  have sB := bb.size
  refine flowp 4 [Pd.eq (.slice A0 p.length c0), Pd.eq (.slice A1 q.length c1), Pd.eq (.bool b), Pd.eq (.bool b)] (by kernel_rfl) ?ob16 ?done16
  case ob16 =>
    refine And.intro (ob_move rfl (wt_none rfl) (ev_far rfl rfl) (fun _ _ h => h)) ?_
    refine And.intro (ob_move rfl (wt_none rfl) (ev_far rfl rfl) (fun _ _ h => h)) ?_
    refine And.intro (ob_call3 rfl Tryz.func119 (by kernel_rfl) (wt_none rfl) (ev_dep (j := 0) (by kernel_rfl) rfl rfl) (ev_dep (j := 1) (by kernel_rfl) rfl rfl) (ev_func _) (fun w2 u0 u1 u2 hb h0 h1 h2 => by obtain rfl := h0; obtain rfl := h1; obtain rfl := h2; exact (eqf_any _ _ p q b _ (k0.below hb) (k1.below hb) HB.out).mono fun e w3 h => RetV.pd h)) ?_
    refine And.intro (ob_assign rfl (wt_none rfl) (ev_dep (j := 2) (by kernel_rfl) rfl rfl) (fun _ _ h => h)) ?_
    trivial
  case done16 =>
    refine fun w1 hb1 v0 h0 v1 h1 v2 h2 v3 h3 b hbf => ?_
    obtain rfl := h0; obtain rfl := h1; obtain rfl := h2; obtain rfl := h3
    simp only [Act.put, List.setIfInBounds_toArray, List.set_cons_zero, List.set_cons_succ] at hbf
    subst hbf
    replace bb := bb.trans (hb1.mono bb.size)
    have hsz1 := bb.size
    refine ops_done ?_
    go_wp2
    go_ret
    exact ⟨rfl, bb⟩
theorem wideq_at {t : List (List Rat)} {r : List Rat} (h : t[0]? = some r) : wideq t = r.length := by
  cases t with
  | nil => simp at h
  | cons s t =>
    obtain rfl : s = r := by simpa using h
    rfl
set_option maxHeartbeats 1600000 in
set_option maxRecDepth 100000 in
theorem msize_any (a0 : Value) (t : List (List Rat)) (w : World) (h0 : SlT .u64 4294967296 w a0 t) :
    Calls Tryz.prog 19 #[a0] w (RetV (.tuple #[.int .i64 ((t.length : Nat) : Int), .int .i64 ((wideq t : Nat) : Int)]) w) := by
  have bb : Below w.heap.size w w := Below.refl _ _
  have st0 := h0
  obtain ⟨A0, c0, rfl, hc0, hm0⟩ := h0.shape
  unfold maxLen at hm0
  go_enter Tryz.func19, Tryz.ntmps19
  go_upto_region 1 with (fail)
  have hsz0 := bb.size
  by_cases hn : t = []
  · subst hn
    have HE : Hid ((((([] : List (List Rat)).length : Nat) : Int) == 0) = true) := rfl
    have sB := bb.size
    refine flowp 3 [Pd.eq (.slice A0 ([] : List (List Rat)).length c0), Pd.eq (.int .i64 ((([] : List (List Rat)).length : Nat) : Int)), Pd.eq (.bool true)] (by kernel_rfl) ?ob1 ?done1
    case ob1 =>
      refine And.intro (ob_move rfl (wt_none rfl) (ev_far rfl rfl) (fun _ _ h => h)) ?_
      refine And.intro (ob_len rfl (wt_none rfl) (ev_dep (j := 0) (by kernel_rfl) rfl rfl) (fun _ _ hx => ⟨_, by rw [hx]; exact len_slice Tryz.underlying22 _ _ _ _, rfl⟩)) ?_
      refine And.intro (ob_bin rfl (wt_none rfl) (ev_dep (j := 1) (by kernel_rfl) rfl rfl) (ev_const _) (fun _ _ _ hx hy => ⟨.bool true, by rw [hx, hy, bin_eql_int, HE.out], rfl⟩)) ?_
      trivial
    case done1 =>
      refine fun w12 hb12 v0 h0 v1 h1 v2 h2 b hbf => ?_
      obtain rfl := h0; obtain rfl := h1; obtain rfl := h2
      simp only [Act.put, List.setIfInBounds_toArray, List.set_cons_zero, List.set_cons_succ] at hbf
      subst hbf
      replace bb := bb.trans (hb12.mono bb.size)
      have hsz12 := bb.size
      refine ops_done ?_
      go_wp2
      go_ret2
      exact ⟨rfl, bb⟩
  · have hl0 : 0 < t.length := List.length_pos_iff.2 hn
    obtain ⟨r, hr⟩ : ∃ r, t[0]? = some r := ⟨_, List.getElem?_eq_getElem hl0⟩
    have HE : Hid ((((t.length : Nat) : Int) == 0) = false) := by show _ = _; rw [beq_eq_false_iff_ne]; omega
    have HW : Hid (r.length = wideq t) := (wideq_at hr).symm
    obtain ⟨ad0, rfl⟩ := st0.place hn
    obtain ⟨Arr, crr, hir, ewr, srr⟩ := st0.at2 hr
    clear hr
    have sB := bb.size
    refine flowp 3 [Pd.eq (.slice (some ad0) t.length c0), Pd.eq (.int .i64 ((t.length : Nat) : Int)), Pd.eq (.bool false)] (by kernel_rfl) ?ob2 ?done2
    case ob2 =>
      refine And.intro (ob_move rfl (wt_none rfl) (ev_far rfl rfl) (fun _ _ h => h)) ?_
      refine And.intro (ob_len rfl (wt_none rfl) (ev_dep (j := 0) (by kernel_rfl) rfl rfl) (fun _ _ hx => ⟨_, by rw [hx]; exact len_slice Tryz.underlying22 _ _ _ _, rfl⟩)) ?_
      refine And.intro (ob_bin rfl (wt_none rfl) (ev_dep (j := 1) (by kernel_rfl) rfl rfl) (ev_const _) (fun _ _ _ hx hy => ⟨.bool false, by rw [hx, hy, bin_eql_int, HE.out], rfl⟩)) ?_
      trivial
    case done2 =>
      refine fun w12 hb12 v0 h0 v1 h1 v2 h2 b hbf => ?_
      obtain rfl := h0; obtain rfl := h1; obtain rfl := h2
      simp only [Act.put, List.setIfInBounds_toArray, List.set_cons_zero, List.set_cons_succ] at hbf
      subst hbf
      replace bb := bb.trans (hb12.mono bb.size)
      have hsz12 := bb.size
      refine ops_done ?_
      have ecr := (bb.cell (World.block_lt_of_cell? w _ ewr)).trans ewr
      have sB := bb.size
      go_upto_region 3 with (fail)
      refine flow 8 [Pd.eq (.slice (some ad0) t.length c0), Pd.eq (.int .i64 ((t.length : Nat) : Int)), Pd.eq (.slice (some ad0) t.length c0), Pd.eq (.pointer (some (ad0.add 0))), Pd.eq (.slice Arr r.length crr), Pd.eq (.int .i64 ((r.length : Nat) : Int)), Pd.eq (.int .i64 ((t.length : Nat) : Int)), Pd.eq (.int .i64 ((r.length : Nat) : Int))] (by kernel_rfl) (by kernel_rfl) ?ob3 ?done3
      case ob3 =>
        refine And.intro (ob_move rfl (wt_none rfl) (ev_far rfl rfl) (fun _ _ h => h)) ?_
        refine And.intro (ob_len rfl (wt_none rfl) (ev_dep (j := 0) (by kernel_rfl) rfl rfl) (fun _ _ hx => ⟨_, by rw [hx]; exact len_slice Tryz.underlying22 _ _ _ _, rfl⟩)) ?_
        refine And.intro (ob_move rfl (wt_none rfl) (ev_far rfl rfl) (fun _ _ h => h)) ?_
        refine And.intro (ob_indexAddr rfl (wt_none rfl) (ev_dep (j := 2) (by kernel_rfl) rfl rfl) (ev_const _) (fun _ _ _ hx hy => ⟨_, by rw [hx, hy]; exact index1_any (k := 0) Tryz.underlying22 (by kernel_rfl) ad0 hir _, rfl⟩)) ?_
        refine And.intro (ob_load rfl (wt_none rfl) (ev_dep (j := 3) (by kernel_rfl) rfl rfl) (fun w2 hb => run_load1 Tryz.underlying64 rfl ((hb.cell (World.block_lt_of_cell? w12 _ ecr)).trans ecr)) (fun _ _ => rfl)) ?_
        refine And.intro (ob_len rfl (wt_none rfl) (ev_dep (j := 4) (by kernel_rfl) rfl rfl) (fun _ _ hx => ⟨_, by rw [hx]; exact len_slice Tryz.underlying64 _ _ _ _, rfl⟩)) ?_
        refine And.intro (ob_assign rfl (wt_none rfl) (ev_dep (j := 1) (by kernel_rfl) rfl rfl) (fun _ _ h => h)) ?_
        refine And.intro (ob_assign rfl (wt_none rfl) (ev_dep (j := 5) (by kernel_rfl) rfl rfl) (fun _ _ h => h)) ?_
        trivial
      case done3 =>
        refine fun w13 hb13 v0 h0 v1 h1 v2 h2 v3 h3 v4 h4 v5 h5 v6 h6 v7 h7 b hbf => ?_
        obtain rfl := h0; obtain rfl := h1; obtain rfl := h2; obtain rfl := h3; obtain rfl := h4; obtain rfl := h5; obtain rfl := h6; obtain rfl := h7
        simp only [Act.put, List.setIfInBounds_toArray, List.set_cons_zero, List.set_cons_succ] at hbf
        subst hbf
        replace bb := bb.trans (hb13.mono bb.size)
        have hsz13 := bb.size
        refine any_done (by kernel_rfl) ?_
        go_wp2
        go_ret2
        exact ⟨by rw [HW.out]; rfl, bb⟩
set_option maxHeartbeats 1600000 in
set_option maxRecDepth 100000 in
theorem mfit_any (a0 a1 : Value) (p q : List (List Rat)) (b : Bool) (w : World) (h0 : SlT .u64 4294967296 w a0 p) (h1 : SlT .u64 4294967296 w a1 q) (hb : b = decide (wideq p = q.length)) :
    Calls Tryz.prog 69 #[a0, a1] w (RetV (.bool b) w) := by
  have bb : Below w.heap.size w w := Below.refl _ _
  have st0 := h0
  obtain ⟨A0, c0, rfl, hc0, hm0⟩ := h0.shape
  unfold maxLen at hm0
  have st1 := h1
  obtain ⟨A1, c1, rfl, hc1, hm1⟩ := h1.shape
  unfold maxLen at hm1
  have HB : Hid ((((wideq p : Nat) : Int) == ((q.length : Nat) : Int)) = b) := by
    show _ = _
    rw [hb]
    by_cases h : wideq p = q.length
    · rw [decide_eq_true h, h]; exact beq_self_eq_true _
    · rw [decide_eq_false h, beq_eq_false_iff_ne]; omega
  clear hb
  go_enter Tryz.func69, Tryz.ntmps69
  go_upto_region 1 with (fail)
  have hsz0 := bb.size
  have sB := bb.size
  refine flowp 7 [Pd.eq (.slice A0 p.length c0), Pd.eq (.tuple #[.int .i64 ((p.length : Nat) : Int), .int .i64 ((wideq p : Nat) : Int)]), Pd.eq (.tuple #[.int .i64 ((p.length : Nat) : Int), .int .i64 ((wideq p : Nat) : Int)]), Pd.eq (.int .i64 ((p.length : Nat) : Int)), Pd.eq (.int .i64 ((wideq p : Nat) : Int)), Pd.eq (.int .i64 ((p.length : Nat) : Int)), Pd.eq (.int .i64 ((wideq p : Nat) : Int))] (by kernel_rfl) ?ob7 ?done7
  case ob7 =>
    refine And.intro (ob_move rfl (wt_none rfl) (ev_far rfl rfl) (fun _ _ h => h)) ?_
    refine And.intro (ob_call1 rfl Tryz.func19 (by kernel_rfl) (wt_none rfl) (ev_dep (j := 0) (by kernel_rfl) rfl rfl) (fun w2 u0 hb h0 => by obtain rfl := h0; exact (msize_any _ p _ ((st0.below bb).below hb)).mono fun e w3 h => RetV.pd h)) ?_
    refine And.intro (ob_move rfl (wt_none rfl) (ev_dep (j := 1) (by kernel_rfl) rfl rfl) (fun _ _ h => h)) ?_
    refine And.intro (ob_extract rfl (wt_none rfl) (ev_dep (j := 2) (by kernel_rfl) rfl rfl) (fun w2 u hu => by obtain rfl := hu; exact ⟨_, rfl, rfl⟩)) ?_
    refine And.intro (ob_extract rfl (wt_none rfl) (ev_dep (j := 2) (by kernel_rfl) rfl rfl) (fun w2 u hu => by obtain rfl := hu; exact ⟨_, rfl, rfl⟩)) ?_
    refine And.intro (ob_assign rfl (wt_none rfl) (ev_dep (j := 3) (by kernel_rfl) rfl rfl) (fun _ _ h => h)) ?_
    refine And.intro (ob_assign rfl (wt_none rfl) (ev_dep (j := 4) (by kernel_rfl) rfl rfl) (fun _ _ h => h)) ?_
    trivial
  case done7 =>
    refine fun w11 hb11 v0 h0 v1 h1 v2 h2 v3 h3 v4 h4 v5 h5 v6 h6 b hbf => ?_
    obtain rfl := h0; obtain rfl := h1; obtain rfl := h2; obtain rfl := h3; obtain rfl := h4; obtain rfl := h5; obtain rfl := h6
    simp only [Act.put, List.setIfInBounds_toArray, List.set_cons_zero, List.set_cons_succ] at hbf
    subst hbf
    replace bb := bb.trans (hb11.mono bb.size)
    have hsz11 := bb.size
    refine ops_done ?_
    have sB := bb.size
    go_upto_region 2 with (fail)
    refine flowp 5 [Pd.eq (.int .i64 ((wideq p : Nat) : Int)), Pd.eq (.slice A1 q.length c1), Pd.eq (.int .i64 ((q.length : Nat) : Int)), Pd.eq (.bool b), Pd.eq (.bool b)] (by kernel_rfl) ?ob8 ?done8
    case ob8 =>
      refine And.intro (ob_move rfl (wt_none rfl) (ev_far rfl rfl) (fun _ _ h => h)) ?_
      refine And.intro (ob_move rfl (wt_none rfl) (ev_far rfl rfl) (fun _ _ h => h)) ?_
      refine And.intro (ob_len rfl (wt_none rfl) (ev_dep (j := 1) (by kernel_rfl) rfl rfl) (fun _ _ hx => ⟨_, by rw [hx]; exact len_slice Tryz.underlying22 _ _ _ _, rfl⟩)) ?_
      refine And.intro (ob_bin rfl (wt_none rfl) (ev_dep (j := 0) (by kernel_rfl) rfl rfl) (ev_dep (j := 2) (by kernel_rfl) rfl rfl) (fun _ _ _ hx hy => ⟨.bool b, by rw [hx, hy, bin_eql_int, HB.out], rfl⟩)) ?_
      refine And.intro (ob_assign rfl (wt_none rfl) (ev_dep (j := 3) (by kernel_rfl) rfl rfl) (fun _ _ h => h)) ?_
      trivial
    case done8 =>
      refine fun w12 hb12 v0 h0 v1 h1 v2 h2 v3 h3 v4 h4 b hbf => ?_
      obtain rfl := h0; obtain rfl := h1; obtain rfl := h2; obtain rfl := h3; obtain rfl := h4
      simp only [Act.put, List.setIfInBounds_toArray, List.set_cons_zero, List.set_cons_succ] at hbf
      subst hbf
      replace bb := bb.trans (hb12.mono bb.size)
      have hsz12 := bb.size
      refine ops_done ?_
      go_wp2
      go_ret
      exact ⟨rfl, bb⟩
set_option maxHeartbeats 3200000 in
set_option maxRecDepth 100000 in
theorem eqt_any (a0 a1 : Value) (p q : List (List Rat)) (b : Bool) (w : World) (h0 : SlT .u64 4294967296 w a0 p) (h1 : SlT .u64 4294967296 w a1 q) (hb : b = decide (p = q)) :
    Calls Tryz.prog 72 #[a0, a1, .func (.func 73) #[] #[]] w (RetV (.bool b) w) := by
  have bb : Below w.heap.size w w := Below.refl _ _
  have st0 := h0
  obtain ⟨A0, c0, rfl, hc0, hm0⟩ := h0.shape
  unfold maxLen at hm0
  have st1 := h1
  obtain ⟨A1, c1, rfl, hc1, hm1⟩ := h1.shape
  unfold maxLen at hm1
  have HB := Lib.hid hb
  clear hb
  go_enter Tryz.func72, Tryz.ntmps72
  go_upto_region 1 with (fail)
  have hsz0 := bb.size
  by_cases he : p.length = q.length
  · have HNE : Hid ((((p.length : Nat) : Int) != ((q.length : Nat) : Int)) = false) := by show _ = _; rw [bne_eq_false_iff_eq]; omega
    have HE := Lib.hid he
    clear he
    have sB := bb.size
    refine flowp 5 [Pd.eq (.slice A0 p.length c0), Pd.eq (.int .i64 ((p.length : Nat) : Int)), Pd.eq (.slice A1 q.length c1), Pd.eq (.int .i64 ((q.length : Nat) : Int)), Pd.eq (.bool false)] (by kernel_rfl) ?ob15 ?done15
    case ob15 =>
      refine And.intro (ob_move rfl (wt_none rfl) (ev_far rfl rfl) (fun _ _ h => h)) ?_
      refine And.intro (ob_len rfl (wt_none rfl) (ev_dep (j := 0) (by kernel_rfl) rfl rfl) (fun _ _ hx => ⟨_, by rw [hx]; exact len_slice Tryz.underlying22 _ _ _ _, rfl⟩)) ?_
      refine And.intro (ob_move rfl (wt_none rfl) (ev_far rfl rfl) (fun _ _ h => h)) ?_
      refine And.intro (ob_len rfl (wt_none rfl) (ev_dep (j := 2) (by kernel_rfl) rfl rfl) (fun _ _ hx => ⟨_, by rw [hx]; exact len_slice Tryz.underlying22 _ _ _ _, rfl⟩)) ?_
      refine And.intro (ob_bin rfl (wt_none rfl) (ev_dep (j := 1) (by kernel_rfl) rfl rfl) (ev_dep (j := 3) (by kernel_rfl) rfl rfl) (fun _ _ _ hx hy => ⟨.bool false, by rw [hx, hy, bin_neq_int, HNE.out], rfl⟩)) ?_
      trivial
    case done15 =>
      refine fun w12 hb12 v0 h0 v1 h1 v2 h2 v3 h3 v4 h4 b hbf => ?_
      obtain rfl := h0; obtain rfl := h1; obtain rfl := h2; obtain rfl := h3; obtain rfl := h4
      simp only [Act.put, List.setIfInBounds_toArray, List.set_cons_zero, List.set_cons_succ] at hbf
      subst hbf
      replace bb := bb.trans (hb12.mono bb.size)
      have hsz12 := bb.size
      refine ops_done ?_
      go_wp2
      go_loopw [17] (fun v17 wr => ∃ k : Nat, k ≤ p.length ∧ Hid (p.take k = q.take k) ∧ Below w.heap.size w wr ∧ v17 = .int .i64 (k : Int)) (fun v17 _ => p.length - (intOf v17).toNat)
      case atStart => exact ⟨0, by omega, rfl, bb, rfl⟩
      case round =>
        obtain ⟨k, hk, HA, hbw, rfl⟩ := hrel
        clear bb
        have bb := hbw
        clear hbw
        have hszr := bb.size
        by_cases hlt : k < p.length
        · have hlt2 : k < q.length := by have := HE.out; omega
          have hnp : p ≠ [] := List.length_pos_iff.1 (by omega)
          have hnq : q ≠ [] := List.length_pos_iff.1 (by omega)
          obtain ⟨x, hx⟩ : ∃ x, p[k]? = some x := ⟨_, List.getElem?_eq_getElem hlt⟩
          obtain ⟨y, hy⟩ : ∃ y, q[k]? = some y := ⟨_, List.getElem?_eq_getElem hlt2⟩
          have HX := Lib.hid hx
          have HY := Lib.hid hy
          obtain ⟨ad0, rfl⟩ := st0.place hnp
          obtain ⟨ad1, rfl⟩ := st1.place hnq
          obtain ⟨Arx, crx, hix, ewx, srx⟩ := st0.at2 hx
          obtain ⟨Ary, cry, hiy, ewy, sry⟩ := st1.at2 hy
          clear hx hy
          have ecx := (bb.cell (World.block_lt_of_cell? w _ ewx)).trans ewx
          have ecy := (bb.cell (World.block_lt_of_cell? w _ ewy)).trans ewy
          have sB := bb.size
          go_upto_region 5 with (fail)
          refine flowp 5 [Pd.eq (.int .i64 (k : Int)), Pd.eq (.pointer (some (ad0.add k))), Pd.eq (.slice Arx x.length crx), Pd.eq (.int .i64 (k : Int)), Pd.eq (.slice Arx x.length crx)] (by kernel_rfl) ?ob16 ?done16
          case ob16 =>
            refine And.intro (ob_move rfl (wt_none rfl) (ev_far rfl rfl) (fun _ _ h => h)) ?_
            refine And.intro (ob_indexAddr rfl (wt_none rfl) (ev_far rfl rfl) (ev_far rfl rfl) (fun _ _ _ hx hy => ⟨_, by rw [hx, hy]; exact index1_any (k := k) Tryz.underlying22 (by kernel_rfl) ad0 hlt _, rfl⟩)) ?_
            refine And.intro (ob_load rfl (wt_none rfl) (ev_dep (j := 1) (by kernel_rfl) rfl rfl) (fun w2 hb => run_load1 Tryz.underlying64 rfl ((hb.cell (World.block_lt_of_cell? wr _ ecx)).trans ecx)) (fun _ _ => rfl)) ?_
            refine And.intro (ob_assign rfl (wt_none rfl) (ev_dep (j := 0) (by kernel_rfl) rfl rfl) (fun _ _ h => h)) ?_
            refine And.intro (ob_assign rfl (wt_none rfl) (ev_dep (j := 2) (by kernel_rfl) rfl rfl) (fun _ _ h => h)) ?_
            trivial
          case done16 =>
            refine fun w14 hb14 v0 h0 v1 h1 v2 h2 v3 h3 v4 h4 b hbf => ?_
            obtain rfl := h0; obtain rfl := h1; obtain rfl := h2; obtain rfl := h3; obtain rfl := h4
            simp only [Act.put, List.setIfInBounds_toArray, List.set_cons_zero, List.set_cons_succ] at hbf
            subst hbf
            replace bb := bb.trans (hb14.mono bb.size)
            have hsz14 := bb.size
            refine ops_done ?_
            clear ecx ecy
            have ecy := (bb.cell (World.block_lt_of_cell? w _ ewy)).trans ewy
            have sB := bb.size
            go_upto_region 6 with (fail)
            refine flowp 5 [Pd.eq (.slice (some ad1) q.length c1), Pd.eq (.int .i64 (k : Int)), Pd.eq (.pointer (some (ad1.add k))), Pd.eq (.slice Ary y.length cry), Pd.eq (.slice Ary y.length cry)] (by kernel_rfl) ?ob17 ?done17
            case ob17 =>
              refine And.intro (ob_move rfl (wt_none rfl) (ev_far rfl rfl) (fun _ _ h => h)) ?_
              refine And.intro (ob_move rfl (wt_none rfl) (ev_far rfl rfl) (fun _ _ h => h)) ?_
              refine And.intro (ob_indexAddr rfl (wt_none rfl) (ev_dep (j := 0) (by kernel_rfl) rfl rfl) (ev_dep (j := 1) (by kernel_rfl) rfl rfl) (fun _ _ _ hx hy => ⟨_, by rw [hx, hy]; exact index1_any (k := k) Tryz.underlying22 (by kernel_rfl) ad1 hlt2 _, rfl⟩)) ?_
              refine And.intro (ob_load rfl (wt_none rfl) (ev_dep (j := 2) (by kernel_rfl) rfl rfl) (fun w2 hb => run_load1 Tryz.underlying64 rfl ((hb.cell (World.block_lt_of_cell? w14 _ ecy)).trans ecy)) (fun _ _ => rfl)) ?_
              refine And.intro (ob_assign rfl (wt_none rfl) (ev_dep (j := 3) (by kernel_rfl) rfl rfl) (fun _ _ h => h)) ?_
              trivial
            case done17 =>
              refine fun w15 hb15 v0 h0 v1 h1 v2 h2 v3 h3 v4 h4 b hbf => ?_
              obtain rfl := h0; obtain rfl := h1; obtain rfl := h2; obtain rfl := h3; obtain rfl := h4
              simp only [Act.put, List.setIfInBounds_toArray, List.set_cons_zero, List.set_cons_succ] at hbf
              subst hbf
              replace bb := bb.trans (hb15.mono bb.size)
              have hsz15 := bb.size
              refine ops_done ?_
              obtain ⟨u, hu⟩ : ∃ u, u = decide (x = y) := ⟨_, rfl⟩
              have HU := Lib.hid hu
              by_cases hxy : x = y
              · have HA2 : Hid (p.take (k + 1) = q.take (k + 1)) := by show _ = _; rw [List.take_add_one, List.take_add_one, HX.out, HY.out, HA.out, hxy]
                rw [decide_eq_true hxy] at hu
                subst hu
                clear hxy
                have sB := bb.size
                go_upto_region 7 with (fail)
                refine flowp 5 [Pd.eq (.func (.func 73) #[] #[]), Pd.eq (.slice Arx x.length crx), Pd.eq (.slice Ary y.length cry), Pd.eq (.bool true), Pd.eq (.bool false)] (by kernel_rfl) ?ob18 ?done18
                case ob18 =>
                  refine And.intro (ob_move rfl (wt_none rfl) (ev_far rfl rfl) (fun _ _ h => h)) ?_
                  refine And.intro (ob_move rfl (wt_none rfl) (ev_far rfl rfl) (fun _ _ h => h)) ?_
                  refine And.intro (ob_move rfl (wt_none rfl) (ev_far rfl rfl) (fun _ _ h => h)) ?_
                  refine And.intro (ob_callv2 rfl (ev_dep (j := 0) (by kernel_rfl) rfl rfl) Tryz.func73 (by kernel_rfl) (wt_none rfl) (ev_dep (j := 1) (by kernel_rfl) rfl rfl) (ev_dep (j := 2) (by kernel_rfl) rfl rfl) (fun w2 u0 u1 hb h0 h1 => by obtain rfl := h0; obtain rfl := h1; exact (fvsame_gen _ _ x y true _ ((srx.below bb).below hb) ((sry.below bb).below hb) HU.out).mono fun e w3 h => RetV.pd h)) ?_
                  refine And.intro (ob_un rfl (wt_none rfl) (ev_dep (j := 3) (by kernel_rfl) rfl rfl) (fun _ => un_not _ _) (fun _ => rfl)) ?_
                  trivial
                case done18 =>
                  refine fun w17 hb17 v0 h0 v1 h1 v2 h2 v3 h3 v4 h4 b hbf => ?_
                  obtain rfl := h0; obtain rfl := h1; obtain rfl := h2; obtain rfl := h3; obtain rfl := h4
                  simp only [Act.put, List.setIfInBounds_toArray, List.set_cons_zero, List.set_cons_succ] at hbf
                  subst hbf
                  replace bb := bb.trans (hb17.mono bb.size)
                  have hsz17 := bb.size
                  refine ops_done ?_
                  have hsk : p.length - (k + 1) < p.length - k := by omega
                  go_wp2
                  go_roundw
                  case rel => exact ⟨k + 1, by omega, HA2, bb, by go_num⟩
                  case measure => simp [intOf]; omega
              · have HW : Hid (b = false) := by
                  show _ = _
                  rw [HB.out]
                  refine decide_eq_false fun e => ?_
                  have h0 := HX.out
                  rw [e, HY.out] at h0
                  exact hxy (Option.some.inj h0).symm
                rw [decide_eq_false hxy] at hu
                subst hu
                clear hxy
                have sB := bb.size
                go_upto_region 7 with (fail)
                refine flowp 5 [Pd.eq (.func (.func 73) #[] #[]), Pd.eq (.slice Arx x.length crx), Pd.eq (.slice Ary y.length cry), Pd.eq (.bool false), Pd.eq (.bool true)] (by kernel_rfl) ?ob19 ?done19
                case ob19 =>
                  refine And.intro (ob_move rfl (wt_none rfl) (ev_far rfl rfl) (fun _ _ h => h)) ?_
                  refine And.intro (ob_move rfl (wt_none rfl) (ev_far rfl rfl) (fun _ _ h => h)) ?_
                  refine And.intro (ob_move rfl (wt_none rfl) (ev_far rfl rfl) (fun _ _ h => h)) ?_
                  refine And.intro (ob_callv2 rfl (ev_dep (j := 0) (by kernel_rfl) rfl rfl) Tryz.func73 (by kernel_rfl) (wt_none rfl) (ev_dep (j := 1) (by kernel_rfl) rfl rfl) (ev_dep (j := 2) (by kernel_rfl) rfl rfl) (fun w2 u0 u1 hb h0 h1 => by obtain rfl := h0; obtain rfl := h1; exact (fvsame_gen _ _ x y false _ ((srx.below bb).below hb) ((sry.below bb).below hb) HU.out).mono fun e w3 h => RetV.pd h)) ?_
                  refine And.intro (ob_un rfl (wt_none rfl) (ev_dep (j := 3) (by kernel_rfl) rfl rfl) (fun _ => un_not _ _) (fun _ => rfl)) ?_
                  trivial
                case done19 =>
                  refine fun w17 hb17 v0 h0 v1 h1 v2 h2 v3 h3 v4 h4 b hbf => ?_
                  obtain rfl := h0; obtain rfl := h1; obtain rfl := h2; obtain rfl := h3; obtain rfl := h4
                  simp only [Act.put, List.setIfInBounds_toArray, List.set_cons_zero, List.set_cons_succ] at hbf
                  subst hbf
                  replace bb := bb.trans (hb17.mono bb.size)
                  have hsz17 := bb.size
                  refine ops_done ?_
                  go_wp2
                  go_ret
                  exact ⟨by rw [HW.out]; rfl, bb⟩
        · have HW : Hid (b = true) := by
            show _ = _
            rw [HB.out]
            have := HA.out
            rw [List.take_of_length_le (by omega), List.take_of_length_le (by have := HE.out; omega)] at this
            exact decide_eq_true this
          go_wp2
          go_ret
          exact ⟨by rw [HW.out]; rfl, bb⟩
  · have HNE : Hid ((((p.length : Nat) : Int) != ((q.length : Nat) : Int)) = true) := by show _ = _; rw [bne_iff_ne]; omega
    have HW : Hid (b = false) := by show _ = _; rw [HB.out]; exact decide_eq_false fun e => he (by rw [e])
    clear he
    have sB := bb.size
    refine flowp 5 [Pd.eq (.slice A0 p.length c0), Pd.eq (.int .i64 ((p.length : Nat) : Int)), Pd.eq (.slice A1 q.length c1), Pd.eq (.int .i64 ((q.length : Nat) : Int)), Pd.eq (.bool true)] (by kernel_rfl) ?ob14 ?done14
    case ob14 =>
      refine And.intro (ob_move rfl (wt_none rfl) (ev_far rfl rfl) (fun _ _ h => h)) ?_
      refine And.intro (ob_len rfl (wt_none rfl) (ev_dep (j := 0) (by kernel_rfl) rfl rfl) (fun _ _ hx => ⟨_, by rw [hx]; exact len_slice Tryz.underlying22 _ _ _ _, rfl⟩)) ?_
      refine And.intro (ob_move rfl (wt_none rfl) (ev_far rfl rfl) (fun _ _ h => h)) ?_
      refine And.intro (ob_len rfl (wt_none rfl) (ev_dep (j := 2) (by kernel_rfl) rfl rfl) (fun _ _ hx => ⟨_, by rw [hx]; exact len_slice Tryz.underlying22 _ _ _ _, rfl⟩)) ?_
      refine And.intro (ob_bin rfl (wt_none rfl) (ev_dep (j := 1) (by kernel_rfl) rfl rfl) (ev_dep (j := 3) (by kernel_rfl) rfl rfl) (fun _ _ _ hx hy => ⟨.bool true, by rw [hx, hy, bin_neq_int, HNE.out], rfl⟩)) ?_
      trivial
    case done14 =>
      refine fun w12 hb12 v0 h0 v1 h1 v2 h2 v3 h3 v4 h4 b hbf => ?_
      obtain rfl := h0; obtain rfl := h1; obtain rfl := h2; obtain rfl := h3; obtain rfl := h4
      simp only [Act.put, List.setIfInBounds_toArray, List.set_cons_zero, List.set_cons_succ] at hbf
      subst hbf
      replace bb := bb.trans (hb12.mono bb.size)
      have hsz12 := bb.size
      refine ops_done ?_
      go_wp2
      go_ret
      exact ⟨by rw [HW.out]; rfl, bb⟩
set_option maxHeartbeats 1600000 in
set_option maxRecDepth 100000 in
theorem msame_any (a0 a1 : Value) (p q : List (List Rat)) (b : Bool) (w : World) (h0 : SlT .u64 4294967296 w a0 p) (h1 : SlT .u64 4294967296 w a1 q) (hb : b = decide (p = q)) :
    Calls Tryz.prog 26 #[a0, a1] w (RetV (.bool b) w) := by
  have bb : Below w.heap.size w w := Below.refl _ _
  have st0 := h0
  obtain ⟨A0, c0, rfl, hc0, hm0⟩ := h0.shape
  unfold maxLen at hm0
  have st1 := h1
  obtain ⟨A1, c1, rfl, hc1, hm1⟩ := h1.shape
  unfold maxLen at hm1
  have HB := Lib.hid hb
  clear hb
  go_enter Tryz.func26, Tryz.ntmps26
  go_upto_region 1 with (fail)
  have hsz0 := bb.size
  have sB := bb.size
  refine flowp 4 [Pd.eq (.slice A0 p.length c0), Pd.eq (.slice A1 q.length c1), Pd.eq (.bool b), Pd.eq (.bool b)] (by kernel_rfl) ?ob20 ?done20
  case ob20 =>
    refine And.intro (ob_move rfl (wt_none rfl) (ev_far rfl rfl) (fun _ _ h => h)) ?_
    refine And.intro (ob_move rfl (wt_none rfl) (ev_far rfl rfl) (fun _ _ h => h)) ?_
    refine And.intro (ob_call3 rfl Tryz.func72 (by kernel_rfl) (wt_none rfl) (ev_dep (j := 0) (by kernel_rfl) rfl rfl) (ev_dep (j := 1) (by kernel_rfl) rfl rfl) (ev_func _) (fun w2 u0 u1 u2 hb h0 h1 h2 => by obtain rfl := h0; obtain rfl := h1; obtain rfl := h2; exact (eqt_any _ _ p q b _ ((st0.below bb).below hb) ((st1.below bb).below hb) HB.out).mono fun e w3 h => RetV.pd h)) ?_
    refine And.intro (ob_assign rfl (wt_none rfl) (ev_dep (j := 2) (by kernel_rfl) rfl rfl) (fun _ _ h => h)) ?_
    trivial
  case done20 =>
    refine fun w11 hb11 v0 h0 v1 h1 v2 h2 v3 h3 b hbf => ?_
    obtain rfl := h0; obtain rfl := h1; obtain rfl := h2; obtain rfl := h3
    simp only [Act.put, List.setIfInBounds_toArray, List.set_cons_zero, List.set_cons_succ] at hbf
    subst hbf
    replace bb := bb.trans (hb11.mono bb.size)
    have hsz11 := bb.size
    refine ops_done ?_
    go_wp2
    go_ret
    exact ⟨rfl, bb⟩
set_option maxHeartbeats 1600000 in
set_option maxRecDepth 100000 in
theorem mayc_any (a0 : Value) (g n : Nat) (r : List Rat) (b : Bool) (w : World) (h0 : SlF .u64 4294967296 w a0 r) (hB : Blk w g 3 #[.int .i64 (n : Int)]) (hb : b = decide (r.length ≠ n)) :
    Calls Tryz.prog 106 #[a0, .pointer (some ⟨g, 0, none⟩)] w (RetV (.bool b) w) := by
  obtain ⟨A, c, rfl, _⟩ := h0.shape
  have c0 := hB.cell 0
  have HB : Hid ((((r.length : Nat) : Int) != (n : Int)) = b) := by
    show _ = _
    rw [hb]
    by_cases h : r.length = n
    · rw [decide_eq_false (fun k => k h), h]; exact bne_self_eq_false _
    · rw [decide_eq_true h, bne_iff_ne]; omega
  clear hb
  go_enter Tryz.func106, Tryz.ntmps106
  go_wp2
  go_ret
  exact ⟨by rw [← HB.out]; rfl, Below.refl _ _⟩
/-- A number that is below 0 just where b does not hold. -/
def RetIdx (b : Bool) (w : World) (e : Ending) (w' : World) : Prop := ∃ n : Int, e = .returned (.int .i64 n) ∧ decide (0 ≤ n) = b ∧ Below w.heap.size w w'
set_option maxHeartbeats 1600000 in
set_option maxRecDepth 100000 in
theorem mindex_any (a0 : Value) (g n : Nat) (t : List (List Rat)) (b : Bool) (w : World) (h0 : SlT .u64 4294967296 w a0 t) (hB : Blk w g 3 #[.int .i64 (n : Int)]) (hb : b = decide (∃ r ∈ t, r.length ≠ n)) :
    Calls Tryz.prog 141 #[a0, .func (.func 106) #[] #[.pointer (some ⟨g, 0, none⟩)]] w (RetIdx b w) := by
  have st0 := h0
  obtain ⟨A, c, rfl, hc, hm⟩ := h0.shape
  unfold maxLen at hm
  have HB := Lib.hid hb
  clear hb
  go_enter Tryz.func141, Tryz.ntmps141
  go_wp2
  go_loopw [8] (fun v8 wr => ∃ k : Nat, k ≤ t.length ∧ Hid (∀ r ∈ t.take k, r.length = n) ∧ Below w.heap.size w wr ∧ v8 = .int .i64 (k : Int)) (fun v8 _ => t.length - (intOf v8).toNat)
  case atStart => exact ⟨0, by omega, (by show ∀ r ∈ _, _; intro r hr; simp at hr), Below.refl _ _, rfl⟩
  case round =>
    obtain ⟨k, hk, HA, bb, rfl⟩ := hrel
    by_cases hlt : k < t.length
    · have hnt : t ≠ [] := List.length_pos_iff.1 (by omega)
      obtain ⟨x, hx⟩ : ∃ x, t[k]? = some x := ⟨_, List.getElem?_eq_getElem hlt⟩
      have HX := Lib.hid hx
      obtain ⟨ad, rfl⟩ := st0.place hnt
      obtain ⟨Ar, cr, hi, ec, sr⟩ := (st0.below bb).at2 hx
      have hBr := hB.below bb
      clear hx
      obtain ⟨u, hu⟩ : ∃ u, u = decide (x.length ≠ n) := ⟨_, rfl⟩
      go_wp2_with fail
      refine (mayc_any _ g n x u _ sr hBr hu).mono ?_
      rintro e w2 ⟨rfl, b2⟩
      have bb2 := bb.trans (b2.mono bb.size)
      by_cases hxn : x.length = n
      · obtain rfl : u = false := by rw [hu]; exact decide_eq_false fun k => k hxn
        have HA2 : Hid (∀ r ∈ t.take (k + 1), r.length = n) := by
          show ∀ r ∈ _, _
          intro r hr
          rw [List.take_add_one, HX.out] at hr
          rcases List.mem_append.1 hr with hr | hr
          · exact HA.out r hr
          · obtain rfl : r = x := by simpa using hr
            exact hxn
        have hsk : t.length - (k + 1) < t.length - k := by omega
        clear hu ec sr hBr
        go_wp2
        go_roundw
        case rel => exact ⟨k + 1, by omega, HA2, bb2, by go_num⟩
        case measure => simp [intOf]; omega
      · obtain rfl : u = true := by rw [hu]; exact decide_eq_true hxn
        have HW : Hid (b = true) := by
          show _ = _
          rw [HB.out]
          exact decide_eq_true ⟨x, List.mem_of_getElem? HX.out, hxn⟩
        clear hu ec sr hBr
        go_wp2
        go_ret
        exact ⟨(k : Int), rfl, by rw [HW.out]; exact decide_eq_true (by omega), bb2⟩
    · have HW : Hid (b = false) := by
        show _ = _
        rw [HB.out]
        refine decide_eq_false fun h => ?_
        obtain ⟨r, hr, hn⟩ := h
        have h1 := HA.out
        rw [List.take_of_length_le (by omega)] at h1
        exact hn (h1 r hr)
      go_wp2
      go_ret
      exact ⟨-1, rfl, by rw [HW.out]; rfl, bb⟩
set_option maxHeartbeats 1600000 in
set_option maxRecDepth 100000 in
theorem mcontains_any (a0 : Value) (g n : Nat) (t : List (List Rat)) (b : Bool) (w : World) (h0 : SlT .u64 4294967296 w a0 t) (hB : Blk w g 3 #[.int .i64 (n : Int)]) (hb : b = decide (∃ r ∈ t, r.length ≠ n)) :
    Calls Tryz.prog 105 #[a0, .func (.func 106) #[] #[.pointer (some ⟨g, 0, none⟩)]] w (RetV (.bool b) w) := by
  have st0 := h0
  obtain ⟨A, c, rfl, hc, hm⟩ := h0.shape
  unfold maxLen at hm
  go_enter Tryz.func105, Tryz.ntmps105
  go_wp2_with fail
  refine (mindex_any _ g n t b _ st0 hB hb).mono ?_
  rintro e w2 ⟨m, rfl, hm2, b2⟩
  have HM := Lib.hid hm2
  clear hm2 hb
  go_wp2
  go_ret
  exact ⟨by rw [← HM.out]; rfl, b2⟩
set_option maxHeartbeats 1600000 in
set_option maxRecDepth 100000 in
theorem mmay_any (a0 : Value) (t : List (List Rat)) (b : Bool) (w : World) (h0 : SlT .u64 4294967296 w a0 t) (hb : b = decide (mayq t)) :
    Calls Tryz.prog 51 #[a0] w (RetV (.bool b) w) := by
  have st0 := h0
  obtain ⟨A, c, rfl, hc, hm⟩ := h0.shape
  unfold maxLen at hm
  have hwl : wideq t ≤ 9223372036854775807 := by
    by_cases hn : t = []
    · rw [hn]; show 0 ≤ _; omega
    · obtain ⟨r, hr⟩ : ∃ r, t[0]? = some r := ⟨_, List.getElem?_eq_getElem (List.length_pos_iff.2 hn)⟩
      obtain ⟨ad, Ar, cr, _, _, _, sr⟩ := st0.at_ hr
      obtain ⟨_, _, e, h1, h2⟩ := sr.shape
      unfold maxLen at h2
      rw [wideq_at hr]; omega
  have HB := Lib.hid hb
  clear hb
  go_enter Tryz.func51, Tryz.ntmps51
  go_wp2_with fail
  refine (msize_any _ t _ st0).mono ?_
  rintro e w2 ⟨rfl, b2⟩
  have st2 := st0.below b2
  go_upto_region 2 with (fail)
  have bn := Blk.new w2 3 #[.int .i64 ((wideq t : Nat) : Int)]
  have ba := below_alloc (w := w2) (Nat.le_refl _) (.cells #[.int .i64 ((wideq t : Nat) : Int)] 3)
  obtain ⟨g, hg⟩ : ∃ g, g = w2.heap.size := ⟨_, rfl⟩
  obtain ⟨w3, hw3⟩ : ∃ w3, w3 = w2.alloc (.cells #[.int .i64 ((wideq t : Nat) : Int)] 3) := ⟨_, rfl⟩
  rw [← hw3] at bn ba ⊢
  rw [← hg] at bn ⊢
  have bb : Below w.heap.size w w3 := b2.trans (ba.mono b2.size)
  have st3 := st0.below bb
  clear hw3 hg ba b2 st2
  have c0 := bn.cell 0
  have z0 := bn.frozen 0
  by_cases h1 : 200 < t.length
  · have h1' : (200 : Int) < ((t.length : Nat) : Int) := by omega
    have HW : Hid (b = false) := by show _ = _; rw [HB.out]; exact decide_eq_false fun h => by have := h.1; omega
    go_wp2
    go_ret
    exact ⟨by rw [HW.out]; rfl, bb⟩
  · have h1' : ¬ (200 : Int) < ((t.length : Nat) : Int) := by omega
    by_cases h2 : 200 < wideq t
    · have h2' : (200 : Int) < ((wideq t : Nat) : Int) := by omega
      have HW : Hid (b = false) := by show _ = _; rw [HB.out]; exact decide_eq_false fun h => by have := h.2.1; omega
      go_wp2
      go_ret
      exact ⟨by rw [HW.out]; rfl, bb⟩
    · have h2' : ¬ (200 : Int) < ((wideq t : Nat) : Int) := by omega
      obtain ⟨u, hu⟩ : ∃ u, u = decide (∃ r ∈ t, r.length ≠ wideq t) := ⟨_, rfl⟩
      have HW : Hid ((!u) = b) := by
        show _ = _
        rw [HB.out, hu]
        by_cases he : evenq t
        · rw [decide_eq_true (show mayq t from ⟨by omega, by omega, he⟩), decide_eq_false fun h => by obtain ⟨r, hr, hn⟩ := h; exact hn (he r hr)]; rfl
        · have e1 : decide (mayq t) = false := decide_eq_false fun h => he h.2.2
          have e2 : decide (∃ r ∈ t, r.length ≠ wideq t) = true := decide_eq_true (Classical.byContradiction fun h => he fun r hr => Classical.byContradiction fun hn => h ⟨r, hr, hn⟩)
          rw [e1, e2]; rfl
      have HU := Lib.hid hu
      clear hu
      go_wp2_with fail
      refine (mcontains_any _ g (wideq t) t u _ st3 bn HU.out).mono ?_
      rintro e w4 ⟨rfl, b4⟩
      have bb4 := bb.trans (b4.mono bb.size)
      clear c0 z0
      go_wp2
      go_ret
      exact ⟨by rw [← HW.out]; rfl, bb4⟩
theorem SlT.drew {k : IntKind} {B : Nat} {w : World} {v : Value} {t : List (List Rat)} (h : SlT k B w v t) : SlT k B w.drew v t := h.below (Below.refl _ w).drew
theorem ListT.drew {w : World} {v : Value} {ts : List (List (List Rat))} (h : ListT w v ts) : ListT w.drew v ts := h.below (Below.refl _ w).drew
section
variable {P : Program} {Q : Exit → Act → World → Prop} {ops : Array Oper} {L : List Oper} {Φ : List Pd} {w0 : World} {a0 : Act} {i : Nat} {o : Oper}
end
theorem info_vec : ∃ i, Tryz.prog.info? 64 = some i ∧ i.zero = some (.slice none 0 0) ∧ i.size = 1 ∧ i.bytes = 24 := info_parts (P := Tryz.prog) (e := 64) (z := .slice none 0 0) (size := 1) (bytes := 24) (by kernel_rfl)
theorem info_veq : ∃ i, Tryz.prog.info? 87 = some i ∧ i.zero = some (.slice none 0 0) ∧ i.size = 1 ∧ i.bytes = 24 := info_parts (P := Tryz.prog) (e := 87) (z := .slice none 0 0) (size := 1) (bytes := 24) (by kernel_rfl)
/-- A table of rows that have no places yet, made by the call. -/
def RetBar (n : Nat) (w : World) (e : Ending) (w' : World) : Prop := ∃ g, e = .returned (.slice (some ⟨g, 0, none⟩) n n) ∧ TabB w' g 64 (List.replicate n (.slice none 0 0)) ∧ w.heap.size ≤ g ∧ Below w.heap.size w w'
theorem RetBar.pd {n : Nat} {w : World} {e : Ending} {w' : World} {B : Nat} (h : RetBar n w e w') (hB : B ≤ w.heap.size) : RetPd (pbar n 64 B) w e w' := by
  obtain ⟨g, h1, h2, h3, h4⟩ := h
  exact ⟨_, h1, ⟨g, rfl, h2, Nat.le_trans hB h3⟩, h4⟩
set_option maxHeartbeats 1600000 in
set_option maxRecDepth 100000 in
theorem mcopied_any (a0 : Value) (x : Rat) (w : World) (h0 : IsQ w a0 x) (hl : lenQ x 100000) :
    Calls Tryz.prog 147 #[a0] w (RetQ x w) := by
  obtain ⟨u0, t0, rfl, s0, r0⟩ := h0
  obtain ⟨A0, c0, rfl, _⟩ := id s0
  obtain ⟨D0, e0, rfl, _⟩ := id r0
  go_enter Tryz.func147, Tryz.ntmps147
  go_upto_region 1 with (fail)
  obtain ⟨wx, hwx, bb, B0, BR0, hsz⟩ := vars2 w 44 44 #[.bool (ngB (x).num), .slice A0 (digs 4294967296 (x).num.natAbs).length c0, .slice D0 (digs 4294967296 (x).den).length e0] #[.bool false, .slice none 0 0, .slice none 0 0]
  rw [hwx]
  clear hwx
  have k0s := s0.below bb
  have k0d := r0.below bb
  have k0z : IsZ wx (.agg #[.bool (ngB (x).num), .slice A0 (digs 4294967296 (x).num.natAbs).length c0]) (x).num := ⟨_, rfl, k0s⟩
  have k0 : IsQ wx (.agg #[.bool (ngB (x).num), .slice A0 (digs 4294967296 (x).num.natAbs).length c0, .slice D0 (digs 4294967296 (x).den).length e0]) (x) := ⟨_, _, rfl, k0s, k0d⟩
  have hsz0 := bb.size
  have sB := bb.size
  refine flow 12 [Pd.eq (.pointer (some ⟨w.heap.size, 0, none⟩)), Pd.eq (.pointer (some ⟨w.heap.size, 0, none⟩)), Pd.eq (.bool (ngB (x).num)), Pd.eq (.pointer (some ⟨w.heap.size, 0, none⟩)), Pd.eq (.pointer (some ⟨w.heap.size, 1, none⟩)), Pd.eq (.slice A0 (digs 4294967296 (x).num.natAbs).length c0), ps .u64 (digs 4294967296 (x).num.natAbs) wx.heap.size, pz ((x).num) wx.heap.size, Pd.eq (.pointer (some ⟨w.heap.size, 2, none⟩)), Pd.eq (.slice D0 (digs 4294967296 (x).den).length e0), ps .u64 (digs 4294967296 (x).den) wx.heap.size, pq (x) wx.heap.size] (by kernel_rfl) (by kernel_rfl) ?ob1 ?done1
  case ob1 =>
    refine And.intro (ob_fieldAddr rfl (wt_none rfl) (ev_far rfl rfl) (fun _ => by kernel_rfl) (fun _ => rfl)) ?_
    refine And.intro (ob_fieldAddr rfl (wt_none rfl) (ev_dep (j := 0) (by kernel_rfl) rfl rfl) (fun _ => by kernel_rfl) (fun _ => rfl)) ?_
    refine And.intro (ob_load rfl (wt_none rfl) (ev_dep (j := 1) (by kernel_rfl) rfl rfl) (fun w2 hb => run_load1 Tryz.underlying4 rfl ((B0.drew.below hb).cell 0)) (fun _ _ => rfl)) ?_
    refine And.intro (ob_fieldAddr rfl (wt_none rfl) (ev_far rfl rfl) (fun _ => by kernel_rfl) (fun _ => rfl)) ?_
    refine And.intro (ob_fieldAddr rfl (wt_none rfl) (ev_dep (j := 3) (by kernel_rfl) rfl rfl) (fun _ => by kernel_rfl) (fun _ => rfl)) ?_
    refine And.intro (ob_load rfl (wt_none rfl) (ev_dep (j := 4) (by kernel_rfl) rfl rfl) (fun w2 hb => run_load1 Tryz.underlying40 rfl ((B0.drew.below hb).cell 1)) (fun _ _ => rfl)) ?_
    refine And.intro (ob_call1 rfl Tryz.func122 (by kernel_rfl) (wt_none rfl) (ev_dep (j := 5) (by kernel_rfl) rfl rfl) (fun w2 u0 hb h0 => by obtain rfl := h0; exact (clone_any _ _ _ (k0s.drew.below hb) (Nat.le_trans hl.1 (by decide))).mono fun e w3 h => RetS.pd h hb.size)) ?_
    refine And.intro (ob_build2b rfl (wt_none rfl) (ev_dep (j := 2) (by kernel_rfl) rfl rfl) (ev_dep (j := 6) (by kernel_rfl) rfl rfl) (fun w2 u v hb hu hv => by obtain rfl := hu; obtain ⟨A7, c7, rfl, _⟩ := id hv.1; exact ⟨.agg #[.bool (ngB (x).num), .slice A7 (digs 4294967296 (x).num.natAbs).length c7], by kernel_rfl, ⟨_, rfl, hv.1⟩, freshZ_mk hv.2⟩)) ?_
    refine And.intro (ob_fieldAddr rfl (wt_none rfl) (ev_far rfl rfl) (fun _ => by kernel_rfl) (fun _ => rfl)) ?_
    refine And.intro (ob_load rfl (wt_none rfl) (ev_dep (j := 8) (by kernel_rfl) rfl rfl) (fun w2 hb => run_load1 Tryz.underlying40 rfl ((B0.drew.below hb).cell 2)) (fun _ _ => rfl)) ?_
    refine And.intro (ob_call1 rfl Tryz.func122 (by kernel_rfl) (wt_none rfl) (ev_dep (j := 9) (by kernel_rfl) rfl rfl) (fun w2 u0 hb h0 => by obtain rfl := h0; exact (clone_any _ _ _ (k0d.drew.below hb) (Nat.le_trans hl.2 (by decide))).mono fun e w3 h => RetS.pd h hb.size)) ?_
    refine And.intro (ob_build2b rfl (wt_none rfl) (ev_dep (j := 7) (by kernel_rfl) rfl rfl) (ev_dep (j := 10) (by kernel_rfl) rfl rfl) (fun w2 u v hb hu hv => by obtain ⟨u7, rfl, hu7⟩ := hu.1; obtain ⟨A7, c7, rfl, _⟩ := id hu7; obtain ⟨A8, c8, rfl, _⟩ := id hv.1; exact ⟨.agg #[.bool (ngB (x).num), .slice A7 (digs 4294967296 (x).num.natAbs).length c7, .slice A8 (digs 4294967296 (x).den).length c8], by kernel_rfl, ⟨⟨_, _, rfl, hu7, hv.1⟩, freshQ_mk (hu.2 _ _ rfl) hv.2⟩⟩)) ?_
    trivial
  case done1 =>
    refine fun w11 hb11 v0 h0 v1 h1 v2 h2 v3 h3 v4 h4 v5 h5 v6 h6 v7 h7 v8 h8 v9 h9 v10 h10 v11 h11 b hbf => ?_
    obtain rfl := h0; obtain rfl := h1; obtain rfl := h2; obtain rfl := h3; obtain rfl := h4; obtain rfl := h5; obtain rfl := h8; obtain rfl := h9
    obtain ⟨q6, f6⟩ := h6
    obtain ⟨q7, f7⟩ := h7
    obtain ⟨q10, f10⟩ := h10
    obtain ⟨q11, f11⟩ := h11
    simp only [Act.put, List.setIfInBounds_toArray, List.set_cons_zero, List.set_cons_succ] at hbf
    subst hbf
    replace B0 := B0.below hb11
    replace k0s := k0s.below hb11
    replace k0d := k0d.below hb11
    replace k0z := k0z.below hb11
    replace k0 := k0.below hb11
    replace BR0 := BR0.below hb11
    replace bb := bb.trans (hb11.mono bb.size)
    have hsz11 := bb.size
    have s_6 := sB
    have s_7 := sB
    have s_10 := sB
    have s_11 := sB
    obtain ⟨u11, t11, rfl, q11, d11⟩ := q11
    obtain ⟨A9, c9, rfl, _⟩ := id q11
    obtain ⟨D9, e9, rfl, _⟩ := id d11
    refine any_store (i := 12) (by kernel_rfl) rfl rfl rfl rfl rfl rfl (cells := [.bool (ngB (x).num), .slice A9 (digs 4294967296 (x).num.natAbs).length c9, .slice D9 (digs 4294967296 (x).den).length e9]) rfl BR0 rfl (by kernel_rfl) (one3 rfl rfl rfl) fun w9 hg9 B9 => ?_
    have k9 := off q11 BR0 no_ints3 hg9
    have d9 := off d11 BR0 no_ints3 hg9
    have f9 := f11.mono (show w.heap.size ≤ _ from s_11)
    have bb9 := bb.trans ((Below.refl _ _).grown hg9 bb.size (fun g hg => by injection hg with hg; omega))
    obtain ⟨C0, C1, C2, _, _, _⟩ := three B9
    refine any_done (by kernel_rfl) ?_
    go_wp2
    exact bodyPost_ret (v := .agg #[.bool (ngB (x).num), .slice A9 (digs 4294967296 (x).num.natAbs).length c9, .slice D9 (digs 4294967296 (x).den).length e9]) (by simp [results, Tryz.results147, go_sem, C0, C1, C2]) rfl ⟨_, rfl, ⟨_, _, rfl, k9, d9⟩, f9, bb9⟩
set_option maxHeartbeats 1600000 in
set_option maxRecDepth 100000 in
theorem mbare_any (n : Int) (d : Nat) (w : World) (hn : n = (d : Int)) (hd : d ≤ 1000000) :
    Calls Tryz.prog 67 #[.int .i64 n] w (RetBar d w) := by
  have bb : Below w.heap.size w w := Below.refl _ _
  subst hn
  go_enter Tryz.func67, Tryz.ntmps67
  go_upto_region 1 with (fail)
  have hsz0 := bb.size
  have sB := bb.size
  refine flowp 3 [Pd.eq (.int .i64 (d : Int)), pbar d 64 w.heap.size, pbar d 64 w.heap.size] (by kernel_rfl) ?ob2 ?done2
  case ob2 =>
    refine And.intro (ob_move rfl (wt_none rfl) (ev_far rfl rfl) (fun _ _ h => h)) ?_
    refine And.intro (ob_make_v d rfl rfl (ev_dep (j := 0) (by kernel_rfl) rfl rfl) (ev_dep (j := 0) (by kernel_rfl) rfl rfl) Tryz.underlying22 info_vec (by omega) (fun _ _ h => h)) ?_
    refine And.intro (ob_assign rfl (wt_none rfl) (ev_dep (j := 1) (by kernel_rfl) rfl rfl) (fun _ _ h => h)) ?_
    trivial
  case done2 =>
    refine fun w11 hb11 v0 h0 v1 h1 v2 h2 b hbf => ?_
    obtain rfl := h0
    have q1 := h1
    have q2 := h2
    simp only [Act.put, List.setIfInBounds_toArray, List.set_cons_zero, List.set_cons_succ] at hbf
    subst hbf
    replace bb := bb.trans (hb11.mono bb.size)
    have hsz11 := bb.size
    refine ops_done ?_
    obtain ⟨g, rfl, TB, hg⟩ := q2
    go_wp2
    go_ret
    exact ⟨g, rfl, TB, hg, bb⟩
set_option maxHeartbeats 3200000 in
set_option maxRecDepth 100000 in
theorem mdots_any (a0 a1 : Value) (t : List (List Rat)) (v : List Rat) (m n : Nat) (w : World) (h0 : SlT .u64 4294967296 w a0 t) (h1 : SlF .u64 4294967296 w a1 v) (he : ∀ r ∈ t, r.length = v.length) (hl : t.length ≤ 1000 ∧ v.length ≤ 1000 ∧ lenT t m ∧ (∀ y ∈ v, lenQ y n) ∧ (m + n + 1) * v.length + 1 ≤ 900) :
    Calls Tryz.prog 76 #[a0, a1] w (RetSl (dotsq t v) w) := by
  have bb : Below w.heap.size w w := Below.refl _ _
  have sl1 := h1
  obtain ⟨A1, c1, rfl, hc1, hm1⟩ := h1.shape
  unfold maxLen at hm1
  have st0 := h0
  obtain ⟨A0, c0, rfl, hc0, hm0⟩ := h0.shape
  unfold maxLen at hm0
  have HL := Lib.hid hl
  have HE := Lib.hid he
  have ht2 : t.length ≤ 1000 := hl.1
  have HRL : Hid ((dotsq t v).length = t.length) := dotsq_len t v
  clear hl he
  go_enter Tryz.func76, Tryz.ntmps76
  go_upto_region 1 with (fail)
  have hsz0 := bb.size
  have sB := bb.size
  refine flowp 4 [Pd.eq (.slice A0 t.length c0), Pd.eq (.int .i64 ((t.length : Nat) : Int)), pro t.length [] w.heap.size, pro t.length [] w.heap.size] (by kernel_rfl) ?ob3 ?done3
  case ob3 =>
    refine And.intro (ob_move rfl (wt_none rfl) (ev_far rfl rfl) (fun _ _ h => h)) ?_
    refine And.intro (ob_len rfl (wt_none rfl) (ev_dep (j := 0) (by kernel_rfl) rfl rfl) (fun _ _ hx => ⟨_, by rw [hx]; exact len_slice Tryz.underlying22 _ _ _ _, rfl⟩)) ?_
    refine And.intro (ob_make_q t.length rfl rfl (ev_dep (j := 1) (by kernel_rfl) rfl rfl) (ev_dep (j := 1) (by kernel_rfl) rfl rfl) Tryz.underlying64 info_rat (by omega) (fun _ _ h => h)) ?_
    refine And.intro (ob_assign rfl (wt_none rfl) (ev_dep (j := 2) (by kernel_rfl) rfl rfl) (fun _ _ h => h)) ?_
    trivial
  case done3 =>
    refine fun w11 hb11 v0 h0 v1 h1 v2 h2 v3 h3 b hbf => ?_
    obtain rfl := h0; obtain rfl := h1
    have q2 := h2
    have q3 := h3
    simp only [Act.put, List.setIfInBounds_toArray, List.set_cons_zero, List.set_cons_succ] at hbf
    subst hbf
    replace bb := bb.trans (hb11.mono bb.size)
    have hsz11 := bb.size
    refine ops_done ?_
    obtain ⟨g, rfl, RN, hg⟩ := q3
    have hgw : w.heap.size ≤ g := by omega
    go_wp2
    go_loopw [13] (fun v13 wr => ∃ k : Nat, k ≤ t.length ∧ RowN wr g t.length ((dotsq t v).take k) ∧ Below w.heap.size w wr ∧ v13 = .int .i64 (k : Int)) (fun v13 _ => t.length - (intOf v13).toNat)
    case atStart => exact ⟨0, by omega, RN, bb, rfl⟩
    case round =>
      obtain ⟨k, hk, hR, hbw, rfl⟩ := hrel
      clear RN bb
      have RN := hR
      have bb := hbw
      clear hR hbw
      have hszr := bb.size
      have hgl := RN.lt
      by_cases hlt : k < t.length
      · have hnt : t ≠ [] := List.length_pos_iff.1 (by omega)
        obtain ⟨x, hx⟩ : ∃ x, t[k]? = some x := ⟨_, List.getElem?_eq_getElem hlt⟩
        have hxm := List.mem_of_getElem? hx
        have HXE : Hid (x.length = v.length) := HE.out x hxm
        have HXB : Hid (x.length ≤ 1000 ∧ (∀ y ∈ x, lenQ y m) ∧ (∀ y ∈ v, lenQ y n) ∧ (m + n + 1) * x.length + 1 ≤ 900) := ⟨by rw [HXE.out]; exact HL.out.2.1, HL.out.2.2.1 x hxm, HL.out.2.2.2.1, by rw [HXE.out]; exact HL.out.2.2.2.2⟩
        have HTK : Hid ((dotsq t v).take (k + 1) = (dotsq t v).take k ++ [dotq x v]) := take_snoc (dotsq_at hx)
        have HLK : Hid (k = ((dotsq t v).take k).length) := by show _ = _; rw [List.length_take, HRL.out]; omega
        obtain ⟨ad0, rfl⟩ := st0.place hnt
        obtain ⟨Arx, crx, hix, ewx, srx⟩ := st0.at2 hx
        clear hx hxm
        have ecx := (bb.cell (World.block_lt_of_cell? w _ ewx)).trans ewx
        have sB := bb.size
        go_upto_region 4 with (fail)
        refine flowp 5 [Pd.eq (.int .i64 (k : Int)), Pd.eq (.pointer (some (ad0.add k))), Pd.eq (.slice Arx x.length crx), Pd.eq (.int .i64 (k : Int)), Pd.eq (.slice Arx x.length crx)] (by kernel_rfl) ?ob4 ?done4
        case ob4 =>
          refine And.intro (ob_move rfl (wt_none rfl) (ev_far rfl rfl) (fun _ _ h => h)) ?_
          refine And.intro (ob_indexAddr rfl (wt_none rfl) (ev_far rfl rfl) (ev_far rfl rfl) (fun _ _ _ hx hy => ⟨_, by rw [hx, hy]; exact index1_any (k := k) Tryz.underlying22 (by kernel_rfl) ad0 hlt _, rfl⟩)) ?_
          refine And.intro (ob_load rfl (wt_none rfl) (ev_dep (j := 1) (by kernel_rfl) rfl rfl) (fun w2 hb => run_load1 Tryz.underlying64 rfl ((hb.cell (World.block_lt_of_cell? wr _ ecx)).trans ecx)) (fun _ _ => rfl)) ?_
          refine And.intro (ob_assign rfl (wt_none rfl) (ev_dep (j := 0) (by kernel_rfl) rfl rfl) (fun _ _ h => h)) ?_
          refine And.intro (ob_assign rfl (wt_none rfl) (ev_dep (j := 2) (by kernel_rfl) rfl rfl) (fun _ _ h => h)) ?_
          trivial
        case done4 =>
          refine fun w13 hb13 v0 h0 v1 h1 v2 h2 v3 h3 v4 h4 b hbf => ?_
          obtain rfl := h0; obtain rfl := h1; obtain rfl := h2; obtain rfl := h3; obtain rfl := h4
          simp only [Act.put, List.setIfInBounds_toArray, List.set_cons_zero, List.set_cons_succ] at hbf
          subst hbf
          replace RN := RN.below hb13
          replace bb := bb.trans (hb13.mono bb.size)
          have hsz13 := bb.size
          refine ops_done ?_
          clear ecx
          have sB := bb.size
          go_upto_region 5 with (fail)
          refine flowp 9 [Pd.eq (.slice (some ⟨g, 0, none⟩) t.length t.length), Pd.eq (.int .i64 (k : Int)), Pd.eq (.slice Arx x.length crx), Pd.eq (.slice A1 v.length c1), pqe ((dotq x v)) 0, pqe ((dotq x v)) 0, pqn ((dotq x v)), Pd.eq (.int .i64 0), Pd.eq (.pointer (some ⟨g, 0 + k * 3, none⟩))] (by kernel_rfl) ?ob5 ?done5
          case ob5 =>
            refine And.intro (ob_move rfl (wt_none rfl) (ev_far rfl rfl) (fun _ _ h => h)) ?_
            refine And.intro (ob_move rfl (wt_none rfl) (ev_far rfl rfl) (fun _ _ h => h)) ?_
            refine And.intro (ob_move rfl (wt_none rfl) (ev_far rfl rfl) (fun _ _ h => h)) ?_
            refine And.intro (ob_move rfl (wt_none rfl) (ev_far rfl rfl) (fun _ _ h => h)) ?_
            refine And.intro (ob_call2 rfl Tryz.func123 (by kernel_rfl) (wt_none rfl) (ev_dep (j := 2) (by kernel_rfl) rfl rfl) (ev_dep (j := 3) (by kernel_rfl) rfl rfl) (fun w2 u0 u1 hb h0 h1 => by obtain rfl := h0; obtain rfl := h1; exact (fdot_gen _ _ x v m n _ ((srx.below bb).below hb) ((sl1.below bb).below hb) HXE.out HXB.out).mono fun e w3 h => RetQE.pd h)) ?_
            refine And.intro (ob_move rfl (wt_none rfl) (ev_dep (j := 4) (by kernel_rfl) rfl rfl) (fun _ _ h => h)) ?_
            refine And.intro (ob_extract rfl (wt_none rfl) (ev_dep (j := 5) (by kernel_rfl) rfl rfl) (fun w2 u hu => by obtain ⟨v, rfl, q1⟩ := hu; exact ⟨v, rfl, q1⟩)) ?_
            refine And.intro (ob_extract rfl (wt_none rfl) (ev_dep (j := 5) (by kernel_rfl) rfl rfl) (fun w2 u hu => by obtain ⟨v, rfl, q1⟩ := hu; exact ⟨_, rfl, rfl⟩)) ?_
            refine And.intro (ob_indexAddr rfl (wt_none rfl) (ev_dep (j := 0) (by kernel_rfl) rfl rfl) (ev_dep (j := 1) (by kernel_rfl) rfl rfl) (fun _ _ _ hx hy => ⟨_, by rw [hx, hy]; exact index3 (k := k) Tryz.underlying64 (by kernel_rfl) hlt _, rfl⟩)) ?_
            trivial
          case done5 =>
            refine fun w14 hb14 v0 h0 v1 h1 v2 h2 v3 h3 v4 h4 v5 h5 v6 h6 v7 h7 v8 h8 b hbf => ?_
            obtain rfl := h0; obtain rfl := h1; obtain rfl := h2; obtain rfl := h3; obtain rfl := h7; obtain rfl := h8
            clear h4
            clear h5
            have q6 := h6
            simp only [Act.put, List.setIfInBounds_toArray, List.set_cons_zero, List.set_cons_succ] at hbf
            subst hbf
            replace RN := RN.below hb14
            replace bb := bb.trans (hb14.mono bb.size)
            have hsz14 := bb.size
            obtain ⟨u6, t6, rfl, q6, d6⟩ := q6
            obtain ⟨A9, c9, rfl, _⟩ := id q6
            obtain ⟨D9, e9, rfl, _⟩ := id d6
            refine ops_store_q (j := 9) rfl rfl rfl rfl (g := g) (i := k) (q := (dotq x v)) rfl rfl (by kernel_rfl) RN hlt q6 d6 fun w15 hg15 hP15 => ?_
            replace bb := bb.trans ((Below.refl _ _).grown hg15 bb.size (fun g hg => by injection hg with hg; omega))
            have hsz15 := bb.size
            replace RN := hP15.1 HLK.out
            clear hP15
            refine ops_done ?_
            rw [← HTK.out] at RN
            have hsk : t.length - (k + 1) < t.length - k := by omega
            go_wp2
            go_roundw
            case rel => exact ⟨k + 1, by omega, RN, bb, by go_num⟩
            case measure => simp [intOf]; omega
      · rw [List.take_of_length_le (by rw [HRL.out]; omega)] at RN
        have hS := RN.sl HRL.out (by omega)
        clear RN
        go_wp2
        go_ret
        exact ⟨_, rfl, hS, bb⟩
end Go.Proofs.YtfnohdgnhdfpaaaGreat.rat
namespace Go.Proofs.YtfnohdgnhdfpaaaGreat.flow
open Go.RowKit Go.Proofs.YtfnohdgnhdfpaaaGreat.num Go.Proofs.YtfnohdgnhdfpaaaGreat.mem Go.Proofs.YtfnohdgnhdfpaaaGreat.whl Go.Proofs.YtfnohdgnhdfpaaaGreat.rat
set_option linter.unusedVariables false
section
variable {P : Program} {Q : Exit → Act → World → Prop} {ops : Array Oper} {o : Oper} {i : Nat}
theorem ops_append_q {rest : List Nat} {a : Act} {w : World} (s x : Operand) {t : TypeId} (ho : ops[i]? = some o) (hg : o.guard = none) (hop : o.op = .call { callee := .builtin .append, args := #[s, x], argTypes := #[t, t] })
    {base : Nat} {T : TypeId} (hT : P.underlying t = some (.slice T)) (hI : ∃ i, P.info? T = some i ∧ i.zero = some (.agg #[.bool false, .slice none 0 0, .slice none 0 0]) ∧ i.size = 3 ∧ i.bytes = 56) {v : Value} {p : Elt} {ps : List Elt} (hs : a.eval s = v) (hown : RowF T w base v ps) {ad : Addr} {c : Nat} (hx : a.eval x = .slice (some ad) 1 c)
    (h0 : w.cell? (ad.add 0) = some (.bool (ngB p.1.num))) (h1 : w.cell? (ad.add 1) = some p.2.1) (h2 : w.cell? (ad.add 2) = some p.2.2) (k1 : p.2.1.oneCell' = true) (k2 : p.2.2.oneCell' = true) (hlen : ps.length ≤ 1000000000) (hbase : base ≤ w.heap.size)
    (h : ∀ v' w' b, RowF T w' base v' (ps ++ [p]) → Below base w w' → Hid (Grew w w' v v') → a.put o.dst v' = b → wpOps P ops Q rest b w') : wpOps P ops Q (i :: rest) a w :=
  ops_one ho hg (wp_append_q s x hop hT hI hs hown hx h0 h1 h2 k1 k2 hlen hbase fun v' w' r b k => h v' w' _ r b k rfl)
end
end Go.Proofs.YtfnohdgnhdfpaaaGreat.flow
namespace Go.Proofs.YtfnohdgnhdfpaaaGreat.rat
open Go.RowKit Go.Proofs.YtfnohdgnhdfpaaaGreat.num Go.Proofs.YtfnohdgnhdfpaaaGreat.mem Go.Proofs.YtfnohdgnhdfpaaaGreat.nat Go.Proofs.YtfnohdgnhdfpaaaGreat.txt Go.Proofs.YtfnohdgnhdfpaaaGreat.str Go.Proofs.YtfnohdgnhdfpaaaGreat.flow Go.Proofs.YtfnohdgnhdfpaaaGreat.whl
set_option linter.unusedVariables false
theorem Grew.trans {w w1 w2 : World} {v v1 v2 : Value} (h : Grew w w1 v v1) (k : Grew w1 w2 v1 v2) : Grew w w2 v v2 := by
  obtain ⟨a1, a2, a3⟩ := h
  obtain ⟨b1, b2, b3⟩ := k
  refine ⟨fun q u l hu hf => ?_, ⟨b2.os.trans a2.os, b2.tape.trans a2.tape, b2.output.trans a2.output, Nat.le_trans a2.size b2.size, fun i hi hne => ?_⟩, fun g hg hne => b3 g (Nat.lt_of_lt_of_le hg a2.size) (a3 g hg hne)⟩
  · have x := a1 q u l hu hf
    exact b1 q u l x.1 x.2
  · rw [b2.block i (Nat.lt_of_lt_of_le hi a2.size) (fun e => a3 i hi (fun e2 => hne e2.symm) e.symm), a2.block i hi hne]
theorem Grew.of_below {w w1 : World} (v : Value) (h : Below w.heap.size w w1) : Grew w w1 v v :=
  ⟨fun q u l hu hf => ⟨hu.below h, hf⟩, ⟨h.os, h.tape, h.output, h.size, fun i hi _ => h.block i hi⟩, fun g _ hne => hne⟩
theorem NewL.below {B B' : Nat} {ps : List Elt} (h : NewL B ps) (hb : B' ≤ B) : NewL B' ps := fun p hp => ⟨(h p hp).1.mono hb, (h p hp).2.mono hb⟩
theorem NewL.far {B : Nat} {ps : List Elt} (h : NewL B ps) {v : Value} (hv : ∀ g, v.ownBlock = some g → g < B) : ∀ p ∈ ps, Far v p.2.1 ∧ Far v p.2.2 := fun p hp => ⟨(h p hp).1.far hv, (h p hp).2.far hv⟩
/-- The table itself stays where one of its rows grows. -/
theorem TabO.mid {k : IntKind} {B : Nat} {T : TypeId} {w w1 : World} {base g n c i : Nat} {TS : TypeId} {us : List Value} {pss : List (List Elt)} {u u' : Value} {ps : List Elt} (hT : T ≠ TS) (h : TabO k B T w base TS (.slice (some ⟨g, 0, none⟩) n c) us pss) (hu : us[i]? = some u) (hps : pss[i]? = some ps) (hgr : Grew w w1 u u') : RowV w1 base TS (.slice (some ⟨g, 0, none⟩) n c) us :=
  World.ownsRow.kept (row := u.ownBlock) h.row hgr.2.1 (.inr fun e => (h.own i u ps hu hps).notRow h.row hT g e.symm rfl)
/-- What the call's own row has become: others behind it, in new memory. -/
def RetApp (T : TypeId) (base : Nat) (a0 : Value) (ps : List Elt) (r : List Rat) (w : World) (e : Ending) (w' : World) : Prop := ∃ u new, e = .returned u ∧ RowF T w' base u (ps ++ new) ∧ new.map (·.1) = r ∧ Grew w w' a0 u ∧ FarF .u64 4294967296 w' u new ∧ NewL w.heap.size new ∧ Below base w w'
set_option linter.unusedSimpArgs false
set_option maxHeartbeats 3200000 in
set_option maxRecDepth 100000 in
theorem mappended_any (a0 a1 : Value) (ps : List Elt) (r : List Rat) (w W : World) (h0 : RowF 44 W w.heap.size a0 ps) (h1 : SlF .u64 4294967296 w a1 r) (hb : Below w.heap.size w W) (hl : ps.length ≤ 1000 ∧ r.length ≤ 1000 ∧ ∀ x ∈ r, lenQ x 100000) :
    Calls Tryz.prog 117 #[a0, a1] W (RetApp 44 w.heap.size a0 ps r W) := by
  have bb : Below w.heap.size w w := Below.refl _ _
  have sl1 := h1
  obtain ⟨A1, c1, rfl, hc1, hm1⟩ := h1.shape
  unfold maxLen at hm1
  have r0 := h0
  obtain ⟨A0, c0, rfl, hc0, hm0, _⟩ := h0.isVF
  have hbase : w.heap.size ≤ W.heap.size := hb.size
  have hbl := h0.base_le
  have HL := Lib.hid hl
  have hps : ps.length ≤ 1000 := hl.1
  have hr2 : r.length ≤ 1000 := hl.2.1
  clear bb hl h0
  have bb : Below w.heap.size w W := hb
  have bW : Below W.heap.size W W := Below.refl _ _
  go_enter Tryz.func117, Tryz.ntmps117
  go_upto_region 1 with (fail)
  have hsz0 := bb.size
  have sB := bb.size
  refine flowp 3 [Pd.eq (.slice A1 r.length c1), Pd.eq (.int .i64 ((r.length : Nat) : Int)), Pd.eq (.int .i64 0)] (by kernel_rfl) ?ob1 ?done1
  case ob1 =>
    refine And.intro (ob_move rfl (wt_none rfl) (ev_far rfl rfl) (fun _ _ h => h)) ?_
    refine And.intro (ob_len rfl (wt_none rfl) (ev_dep (j := 0) (by kernel_rfl) rfl rfl) (fun _ _ hx => ⟨_, by rw [hx]; exact len_slice Tryz.underlying64 _ _ _ _, rfl⟩)) ?_
    refine And.intro (ob_move rfl (wt_none rfl) (ev_const _) (fun _ _ h => h)) ?_
    trivial
  case done1 =>
    refine fun w11 hb11 v0 h0 v1 h1 v2 h2 b hbf => ?_
    obtain rfl := h0; obtain rfl := h1; obtain rfl := h2
    simp only [Act.put, List.setIfInBounds_toArray, List.set_cons_zero, List.set_cons_succ] at hbf
    subst hbf
    replace bb := bb.trans (hb11.mono bb.size)
    have hsz11 := bb.size
    replace bW := bW.trans (hb11.mono bW.size)
    refine ops_done ?_
    go_wp2
    go_loopw [0, 9] (fun v0 v9 wr => ∃ (k : Nat) (new : List Elt), k ≤ r.length ∧ RowF 44 wr w.heap.size v0 (ps ++ new) ∧ Hid (new.map (·.1) = r.take k) ∧ Hid (Grew W wr (.slice A0 ps.length c0) v0) ∧ FarF .u64 4294967296 wr v0 new ∧ NewL W.heap.size new ∧ Below w.heap.size w wr ∧ v9 = .int .i64 (k : Int)) (fun _ v9 _ => r.length - (intOf v9).toNat)
    case atStart => exact ⟨0, [], by omega, by rw [List.append_nil]; exact r0.below bW, rfl, Grew.of_below _ bW, FarF.nil _ _ _ _, NewL.nil _, bb, rfl⟩
    case round =>
      obtain ⟨k, new, hk, hR, HM, HG, hF, hN, hbw, rfl⟩ := hrel
      clear bb bW
      have bb := hbw
      clear hbw
      have hszr := bb.size
      have hsW : W.heap.size ≤ wr.heap.size := HG.out.2.1.size
      by_cases hlt : k < r.length
      · have bl : Below wr.heap.size wr wr := Below.refl _ _
        obtain ⟨AR, cR, hAR, _⟩ := hR.isVF
        subst hAR
        obtain ⟨x, hq1_⟩ : ∃ x, r[k]? = some x := ⟨_, List.getElem?_eq_getElem hlt⟩
        obtain ⟨g1_, o1_, ue1, te1, hA1_, _, e10, e11, e12, es1, ed1⟩ := (sl1.below bb).at_ hq1_
        subst hA1_
        have HQ1 := Lib.hid hq1_
        clear hq1_
        obtain ⟨Ae1, ce1, rfl, _⟩ := id es1
        obtain ⟨De1, ee1, rfl, _⟩ := id ed1
        have ke1 : IsQ wr (.agg #[.bool (ngB x.num), .slice Ae1 (digs 4294967296 x.num.natAbs).length ce1, .slice De1 (digs 4294967296 x.den).length ee1]) x := ⟨_, _, rfl, es1, ed1⟩
        have lx : lenQ x 100000 := HL.out.2.2 x (List.mem_of_getElem? HQ1.out)
        have HNL : Hid (new.length = k) := by
          have h := congrArg List.length HM.out
          rw [List.length_map, List.length_take] at h
          show _ = _
          omega
        have sB := bb.size
        go_upto_region 3 with (fail)
        refine flowp 3 [Pd.eq (.pointer (some ⟨g1_, o1_ + k * 3, none⟩)), Pd.eq (.agg #[.bool (ngB x.num), .slice Ae1 (digs 4294967296 x.num.natAbs).length ce1, .slice De1 (digs 4294967296 x.den).length ee1]), pn 44 #[.bool false, .slice none 0 0, .slice none 0 0] wr.heap.size] (by kernel_rfl) ?ob2 ?done2
        case ob2 =>
          refine And.intro (ob_indexAddr rfl (wt_none rfl) (ev_far rfl rfl) (ev_far rfl rfl) (fun _ _ _ hx hy => ⟨_, by rw [hx, hy]; exact index3 Tryz.underlying64 (by kernel_rfl) hlt _, rfl⟩)) ?_
          refine And.intro (ob_load rfl (wt_none rfl) (ev_dep (j := 0) (by kernel_rfl) rfl rfl) (fun w2 hb => load3 Tryz.underlying44 rfl (by kernel_rfl) ((hb.cell (World.block_lt_of_cell? wr _ e10)).trans e10) ((hb.cell (World.block_lt_of_cell? wr _ e11)).trans e11) ((hb.cell (World.block_lt_of_cell? wr _ e12)).trans e12)) (fun _ _ => rfl)) ?_
          refine And.intro (ob_alloc (z := .agg #[.bool false, .slice none 0 0, .slice none 0 0]) rfl rfl (fun _ => by kernel_rfl) (fun _ _ hB h => ⟨_, rfl, hB, h⟩)) ?_
          trivial
        case done2 =>
          refine fun w13 hb13 v0 h0 v1 h1 v2 h2 d2 b hbf => ?_
          obtain rfl := h0; obtain rfl := h1
          obtain ⟨g2_2, rfl, hg2, B2⟩ := h2
          simp only [Act.put, List.setIfInBounds_toArray, List.set_cons_zero, List.set_cons_succ] at hbf
          subst hbf
          replace es1 := es1.below hb13
          replace ed1 := ed1.below hb13
          replace bb := bb.trans (hb13.mono bb.size)
          have hsz13 := bb.size
          replace bl := bl.trans (hb13.mono bl.size)
          have BA6 := B2
          have q1 := es1
          have d1 := ed1
          refine ops_store (i := 3) rfl rfl rfl rfl rfl rfl (cells := [.bool (ngB (x).num), .slice Ae1 (digs 4294967296 (x).num.natAbs).length ce1, .slice De1 (digs 4294967296 (x).den).length ee1]) rfl BA6 rfl (by kernel_rfl) (one3 rfl rfl rfl) fun w14 hg14 BN14 => ?_
          replace q1 := off q1 BA6 no_ints3 hg14
          replace d1 := off d1 BA6 no_ints3 hg14
          replace bb := bb.trans ((Below.refl _ _).grown hg14 bb.size (fun g hg => by injection hg with hg; omega))
          have hsz14 := bb.size
          have Be1 : Blk w14 (g2_2) _ _ := BN14
          have ke1s := q1
          have ke1d := d1
          have ke1z : IsZ w14 (.agg #[.bool (ngB (x).num), .slice Ae1 (digs 4294967296 (x).num.natAbs).length ce1]) ((x).num) := ⟨_, rfl, ke1s⟩
          have ke1 : IsQ w14 (.agg #[.bool (ngB (x).num), .slice Ae1 (digs 4294967296 (x).num.natAbs).length ce1, .slice De1 (digs 4294967296 (x).den).length ee1]) (x) := ⟨_, _, rfl, ke1s, ke1d⟩
          refine ops_done ?_
          replace bl := bl.trans ((Below.refl _ _).grown hg14 bl.size (fun g hg => by injection hg with hg; omega))
          have nR := (hR.below bl).under
          have hsl := bl.size
          have sB := bb.size
          go_upto_region 4 with (fail)
          refine flowp 4 [Pd.eq (.slice AR (ps ++ new).length cR), Pd.eq (.agg #[.bool (ngB (x).num), .slice Ae1 (digs 4294967296 (x).num.natAbs).length ce1, .slice De1 (digs 4294967296 (x).den).length ee1]), pq (x) w14.heap.size, pone (pq (x) w14.heap.size)] (by kernel_rfl) ?ob3 ?done3
          case ob3 =>
            refine And.intro (ob_move rfl (wt_none rfl) (ev_far rfl rfl) (fun _ _ h => h)) ?_
            refine And.intro (ob_load rfl (wt_none rfl) (ev_far rfl rfl) (fun w2 hb => run_loadAll Tryz.underlying44 rfl (by kernel_rfl) (Be1.below hb)) (fun _ _ => rfl)) ?_
            refine And.intro (ob_call1 rfl Tryz.func147 (by kernel_rfl) (wt_none rfl) (ev_dep (j := 1) (by kernel_rfl) rfl rfl) (fun w2 u0 hb h0 => by obtain rfl := h0; exact (mcopied_any _ x _ (ke1.below hb) lx).mono fun e w3 h => RetQ.pd h hb.size)) ?_
            refine And.intro (ob_build_q (φ := pq (x) w14.heap.size) rfl rfl (ev_dep (j := 2) (by kernel_rfl) rfl rfl) Tryz.underlying64 info_rat (fun w v h => ⟨h, by obtain ⟨⟨u, t, rfl, hu, ht⟩, _⟩ := h; obtain ⟨_, _, rfl, _⟩ := id hu; obtain ⟨_, _, rfl, _⟩ := id ht; exact ⟨_, _, _, rfl, rfl, rfl, rfl⟩⟩) (fun _ _ h => h)) ?_
            trivial
          case done3 =>
            refine fun w15 hb15 v0 h0 v1 h1 v2 h2 v3 h3 b hbf => ?_
            obtain rfl := h0; obtain rfl := h1
            obtain ⟨q2, f2⟩ := h2
            obtain ⟨g3_, x3, y3, z3, rfl, c30, c31, c32, K3⟩ := h3
            simp only [Act.put, List.setIfInBounds_toArray, List.set_cons_zero, List.set_cons_succ] at hbf
            subst hbf
            replace Be1 := Be1.below hb15
            replace ke1s := ke1s.below hb15
            replace ke1d := ke1d.below hb15
            replace ke1z := ke1z.below hb15
            replace ke1 := ke1.below hb15
            replace bb := bb.trans (hb15.mono bb.size)
            have hsz15 := bb.size
            replace bl := bl.trans (hb15.mono bl.size)
            have s_2 := sB
            have hR4 := hR.below bl
            have hF4 := hF.below bl
            have hsz4 := bb.size
            have HL8 : Hid ((ps ++ new).length ≤ 1000000000) := by show _ ≤ _; rw [List.length_append, HNL.out]; omega
            obtain ⟨⟨uE, tE, eE, sE, dE⟩, fE⟩ := K3
            obtain ⟨rfl, rfl, rfl⟩ : x3 = .bool (ngB (x).num) ∧ y3 = uE ∧ z3 = tE := by injection eE with eE; simpa using eE
            clear eE
            obtain ⟨AE, cE, rfl, _⟩ := id sE
            obtain ⟨DE, rE, rfl, _⟩ := id dE
            refine ops_append_q (i := 4) (.tmp 13) (.tmp 16) rfl rfl rfl Tryz.underlying64 info_rat (p := (x, .slice AE (digs 4294967296 (x).num.natAbs).length cE, .slice DE (digs 4294967296 (x).den).length rE)) (ps := (ps ++ new)) rfl hR4 rfl c30 c31 c32 rfl rfl HL8.out hsz4 fun v8 w8 b8 row8 bb8 HK8 hb8 => ?_
            simp only [Act.put, List.setIfInBounds_toArray, List.set_cons_zero, List.set_cons_succ] at hb8
            subst hb8
            have EC : IsE .u64 4294967296 w15 ((x, .slice AE (digs 4294967296 (x).num.natAbs).length cE, .slice DE (digs 4294967296 (x).den).length rE) : Elt) := ⟨sE, dE⟩
            have F8 := hF4.snoc HK8.out.1 EC ((fE _ _ _ rfl).1.far nR) ((fE _ _ _ rfl).2.far nR)
            have NN8 := hN.snoc ((fE _ _ _ rfl).1.mono (show W.heap.size ≤ _ by omega)) ((fE _ _ _ rfl).2.mono (show W.heap.size ≤ _ by omega)) (p := (x, .slice AE (digs 4294967296 (x).num.natAbs).length cE, .slice DE (digs 4294967296 (x).den).length rE))
            refine ops_assign (i := 5) (v8) rfl rfl rfl rfl rfl fun b hbf => ?_
            simp only [Act.put, List.setIfInBounds_toArray, List.set_cons_zero, List.set_cons_succ] at hbf
            subst hbf
            refine ops_done ?_
            have HM8 : Hid ((new ++ [((x, .slice AE (digs 4294967296 (x).num.natAbs).length cE, .slice DE (digs 4294967296 (x).den).length rE) : Elt)]).map (·.1) = r.take (k + 1)) := by
              show _ = _
              rw [List.map_append, HM.out, take_snoc HQ1.out]
              rfl
            have HG8 : Hid (Grew W w8 (.slice A0 ps.length c0) v8) := (HG.out.trans (Grew.of_below _ bl)).trans HK8.out
            have b8 := bb.trans bb8
            rw [List.append_assoc] at row8
            clear HK8 EC fE hR hF hR4 hF4 hN
            have hsk : r.length - (k + 1) < r.length - k := by omega
            go_wp2
            go_roundw
            case rel => exact ⟨k + 1, _, by omega, row8, HM8, HG8, F8, NN8, b8, by go_num⟩
            case measure => simp [intOf]; omega
      · have HME : Hid (new.map (·.1) = r) := by show _ = _; rw [HM.out, List.take_of_length_le (by omega)]
        have hbW : Below w.heap.size W wr := (Below.refl _ W).grown HG.out.2.1 hbase hbl
        clear HM
        go_wp2
        go_ret
        exact ⟨_, new, rfl, hR, HME.out, HG.out, hF, hN, hbW⟩
/-- The program's tables whose rows the call owns. -/
abbrev TabR (w : World) (base : Nat) (V : Value) (us : List Value) (pss : List (List Elt)) : Prop := TabO .u64 4294967296 44 w base 64 V us pss
def RetJoin (base g n c : Nat) (J : List (List Rat)) (w : World) (e : Ending) (w' : World) : Prop := ∃ us pss, e = .returned (.slice (some ⟨g, 0, none⟩) n c) ∧ TabR w' base (.slice (some ⟨g, 0, none⟩) n c) us pss ∧ valq pss = J ∧ us.length = n ∧ Below base w w'
set_option maxHeartbeats 3200000 in
set_option maxRecDepth 100000 in
theorem mjoined_any (g n c : Nat) (a1 : Value) (us : List Value) (pss : List (List Elt)) (t : List (List Rat)) (w W : World) (h0 : TabR W w.heap.size (.slice (some ⟨g, 0, none⟩) n c) us pss) (h1 : SlT .u64 4294967296 w a1 t) (hb : Below w.heap.size w W) (hu : us.length = n) (ht : t.length = n) (hgw : w.heap.size ≤ g)
    (hl : (∀ r ∈ valq pss, r.length ≤ 1000) ∧ (∀ r ∈ t, r.length ≤ 1000) ∧ lenT t 100000) :
    Calls Tryz.prog 70 #[.slice (some ⟨g, 0, none⟩) n c, a1] W (RetJoin w.heap.size g n c (joinq (valq pss) t) W) := by
  have st1 := h1
  obtain ⟨A1, c1, rfl, hc1, hm1⟩ := h1.shape
  unfold maxLen at hm1
  have HL := Lib.hid hl
  have HTN := Lib.hid ht
  have HUN := Lib.hid hu
  have HPT : Hid ((valq pss).length = t.length) := by show _ = _; rw [valq_len, ← h0.len, hu, ht]
  clear hl ht hu
  go_enter Tryz.func70, Tryz.ntmps70
  go_wp2
  go_loopw [9] (fun v9 wr => ∃ (k : Nat) (us' : List Value) (pss' : List (List Elt)), k ≤ t.length ∧ TabR wr w.heap.size (.slice (some ⟨g, 0, none⟩) n c) us' pss' ∧ Hid (valq pss' = jst (valq pss) t k) ∧ us'.length = n ∧ Below w.heap.size W wr ∧ v9 = .int .i64 (k : Int)) (fun v9 _ => t.length - (intOf v9).toNat)
  case atStart => exact ⟨0, us, pss, by omega, h0, by show _ = _; rw [jst_zero], HUN.out, Below.refl _ _, rfl⟩
  case round =>
    obtain ⟨k, us', pss', hk, hT, HJ, hul, hbW, rfl⟩ := hrel
    have HUL := Lib.hid hul
    clear hul
    have bb : Below w.heap.size w wr := hb.trans hbW
    by_cases hlt : k < t.length
    · have hnt : t ≠ [] := List.length_pos_iff.1 (by omega)
      obtain ⟨x, hx⟩ : ∃ x, t[k]? = some x := ⟨_, List.getElem?_eq_getElem hlt⟩
      have HX := Lib.hid hx
      have hxm := List.mem_of_getElem? hx
      obtain ⟨ad, rfl⟩ := st1.place hnt
      obtain ⟨Ax, cx, hi, ewx, srx⟩ := st1.at2 hx
      have ecx := (bb.cell (World.block_lt_of_cell? w _ ewx)).trans ewx
      have hkn : k < n := by have := HTN.out; omega
      obtain ⟨u, hu'⟩ : ∃ u, us'[k]? = some u := ⟨_, List.getElem?_eq_getElem (by have := HUL.out; omega)⟩
      obtain ⟨ps, hps⟩ : ∃ ps, pss'[k]? = some ps := ⟨_, List.getElem?_eq_getElem (by rw [← hT.len]; have := HUL.out; omega)⟩
      have HU := Lib.hid hu'
      have HPS := Lib.hid hps
      obtain ⟨p, hp⟩ : ∃ p, (valq pss)[k]? = some p := ⟨_, List.getElem?_eq_getElem (by rw [HPT.out]; exact hlt)⟩
      have HP : Hid (ps.map (·.1) = p) := by
        have h2 := valq_at hps
        rw [HJ.out, jst_at HPT.out hp] at h2
        exact (Option.some.inj h2).symm
      have HJ2 : Hid ((jst (valq pss) t k).set k (p ++ x) = jst (valq pss) t (k + 1)) := jst_set HPT.out hp hx
      have hpl : ps.length ≤ 1000 := by
        have h2 := congrArg List.length HP.out
        rw [List.length_map] at h2
        rw [h2]
        exact HL.out.1 p (List.mem_of_getElem? hp)
      have hown := hT.own k u ps hu' hps
      have lxl : x.length ≤ 1000 := HL.out.2.1 x hxm
      have lx : ∀ y ∈ x, lenQ y 100000 := HL.out.2.2 x hxm
      have hcell := hT.cell hu'
      obtain ⟨Au, cu, eu, hcu⟩ := hown.isVF
      subst eu
      have HT := Lib.hid hT
      clear hx hxm hu' hps hp hT
      go_wp2_with fail
      refine (mappended_any _ _ ps x w wr hown srx bb ⟨hpl, lxl, lx⟩).mono ?_
      rintro e w2 ⟨u2, new, rfl, hrow, hmap, hgr, hfar, hnew, b2⟩
      have hV := HT.out.mid (by decide) HU.out HPS.out hgr
      have hc2 := hV.cellAt HU.out
      have hf2 := hV.frozenAt k
      have hT2 := HT.out.put (by decide) HU.out HPS.out hrow hgr hfar (fun v hv q hq => by
        have h2 := HT.out.farNew ((hnew q hq).1)
        have h3 := HT.out.farNew ((hnew q hq).2)
        exact ⟨h2.1 v hv, h3.1 v hv⟩) (fun q hq => ⟨(HT.out.farNew ((hnew q hq).1)).2, (HT.out.farNew ((hnew q hq).2)).2⟩)
      obtain ⟨A2, c2, e2, hc2'⟩ := hrow.isVF
      rw [List.length_append] at e2
      subst e2
      have HJ3 : Hid (valq (pss'.set k (ps ++ new)) = jst (valq pss) t (k + 1)) := by
        show _ = _
        rw [valq_set, HJ.out, List.map_append, HP.out, hmap, HJ2.out]
      have hul2 : (us'.set k (.slice A2 (ps.length + new.length) c2)).length = n := by rw [List.length_set]; exact HUL.out
      have hb3 := (hbW.trans b2).setCell (p := ⟨g, k, none⟩) hgw (.slice A2 (ps.length + new.length) c2)
      have hsk : t.length - (k + 1) < t.length - k := by omega
      clear hrow hgr hfar hnew hV hown ecx hcell
      go_wp2
      go_roundw
      case rel => exact ⟨k + 1, _, _, by omega, hT2, HJ3, hul2, hb3, by go_num⟩
      case measure => simp [intOf]; omega
    · have HJE : Hid (valq pss' = joinq (valq pss) t) := by show _ = _; rw [HJ.out, jst_full HPT.out (by omega)]
      go_wp2
      go_ret
      exact ⟨us', pss', rfl, hT, HJE.out, HUL.out, hbW⟩
set_option maxHeartbeats 6400000 in
set_option maxRecDepth 100000 in
theorem mturned_any (a0 : Value) (t : List (List Rat)) (w : World) (h0 : SlT .u64 4294967296 w a0 t) (hl : t.length ≤ 1000 ∧ wideq t ≤ 1000 ∧ evenq t ∧ lenT t 100000) :
    Calls Tryz.prog 118 #[a0] w (RetSlT .u64 4294967296 (turnq t) w) := by
  have bb : Below w.heap.size w w := Below.refl _ _
  have st0 := h0
  obtain ⟨A0, c0, rfl, hc0, hm0⟩ := h0.shape
  unfold maxLen at hm0
  have HL := Lib.hid hl
  have ht2 : t.length ≤ 1000 := hl.1
  have hw2 : wideq t ≤ 1000 := hl.2.1
  clear hl
  go_enter Tryz.func118, Tryz.ntmps118
  go_upto_region 1 with (fail)
  have hsz0 := bb.size
  have sB := bb.size
  refine flowp 7 [Pd.eq (.slice A0 t.length c0), Pd.eq (.tuple #[.int .i64 ((t.length : Nat) : Int), .int .i64 ((wideq t : Nat) : Int)]), Pd.eq (.tuple #[.int .i64 ((t.length : Nat) : Int), .int .i64 ((wideq t : Nat) : Int)]), Pd.eq (.int .i64 ((t.length : Nat) : Int)), Pd.eq (.int .i64 ((wideq t : Nat) : Int)), Pd.eq (.int .i64 ((t.length : Nat) : Int)), Pd.eq (.int .i64 ((wideq t : Nat) : Int))] (by kernel_rfl) ?ob1 ?done1
  case ob1 =>
    refine And.intro (ob_move rfl (wt_none rfl) (ev_far rfl rfl) (fun _ _ h => h)) ?_
    refine And.intro (ob_call1 rfl Tryz.func19 (by kernel_rfl) (wt_none rfl) (ev_dep (j := 0) (by kernel_rfl) rfl rfl) (fun w2 u0 hb h0 => by obtain rfl := h0; exact (msize_any _ t _ ((st0.below bb).below hb)).mono fun e w3 h => RetV.pd h)) ?_
    refine And.intro (ob_move rfl (wt_none rfl) (ev_dep (j := 1) (by kernel_rfl) rfl rfl) (fun _ _ h => h)) ?_
    refine And.intro (ob_extract rfl (wt_none rfl) (ev_dep (j := 2) (by kernel_rfl) rfl rfl) (fun w2 u hu => by obtain rfl := hu; exact ⟨_, rfl, rfl⟩)) ?_
    refine And.intro (ob_extract rfl (wt_none rfl) (ev_dep (j := 2) (by kernel_rfl) rfl rfl) (fun w2 u hu => by obtain rfl := hu; exact ⟨_, rfl, rfl⟩)) ?_
    refine And.intro (ob_assign rfl (wt_none rfl) (ev_dep (j := 3) (by kernel_rfl) rfl rfl) (fun _ _ h => h)) ?_
    refine And.intro (ob_assign rfl (wt_none rfl) (ev_dep (j := 4) (by kernel_rfl) rfl rfl) (fun _ _ h => h)) ?_
    trivial
  case done1 =>
    refine fun w11 hb11 v0 h0 v1 h1 v2 h2 v3 h3 v4 h4 v5 h5 v6 h6 b hbf => ?_
    obtain rfl := h0; obtain rfl := h1; obtain rfl := h2; obtain rfl := h3; obtain rfl := h4; obtain rfl := h5; obtain rfl := h6
    simp only [Act.put, List.setIfInBounds_toArray, List.set_cons_zero, List.set_cons_succ] at hbf
    subst hbf
    replace bb := bb.trans (hb11.mono bb.size)
    have hsz11 := bb.size
    refine ops_done ?_
    have sB := bb.size
    go_upto_region 2 with (fail)
    refine flowp 3 [Pd.eq (.int .i64 ((wideq t : Nat) : Int)), pbar (wideq t) 64 w11.heap.size, pbar (wideq t) 64 w11.heap.size] (by kernel_rfl) ?ob2 ?done2
    case ob2 =>
      refine And.intro (ob_move rfl (wt_none rfl) (ev_far rfl rfl) (fun _ _ h => h)) ?_
      refine And.intro (ob_call1 rfl Tryz.func67 (by kernel_rfl) (wt_none rfl) (ev_dep (j := 0) (by kernel_rfl) rfl rfl) (fun w2 u0 hb h0 => by obtain rfl := h0; exact (mbare_any _ ((wideq t)) _ rfl (by omega)).mono fun e w3 h => RetBar.pd h hb.size)) ?_
      refine And.intro (ob_assign rfl (wt_none rfl) (ev_dep (j := 1) (by kernel_rfl) rfl rfl) (fun _ _ h => h)) ?_
      trivial
    case done2 =>
      refine fun w12 hb12 v0 h0 v1 h1 v2 h2 b hbf => ?_
      obtain rfl := h0
      have q1 := h1
      have q2 := h2
      simp only [Act.put, List.setIfInBounds_toArray, List.set_cons_zero, List.set_cons_succ] at hbf
      subst hbf
      replace bb := bb.trans (hb12.mono bb.size)
      have hsz12 := bb.size
      refine ops_done ?_
      obtain ⟨g, rfl, TB, hg⟩ := q2
      have hgw : w.heap.size ≤ g := by omega
      have hT0 : TabR w12 w.heap.size (.slice (some ⟨g, 0, none⟩) (wideq t) (wideq t)) (List.replicate (wideq t) (.slice none 0 0)) (List.replicate (wideq t) []) := TB.owned hgw (by omega)
      clear TB
      go_wp2
      go_loopw [19] (fun v19 wr => ∃ (k : Nat) (us : List Value) (pss : List (List Elt)), k ≤ t.length ∧ TabR wr w.heap.size (.slice (some ⟨g, 0, none⟩) (wideq t) (wideq t)) us pss ∧ Hid (valq pss = tst t k 0) ∧ Hid (us.length = wideq t) ∧ Below w.heap.size w wr ∧ v19 = .int .i64 (k : Int)) (fun v19 _ => t.length - (intOf v19).toNat)
      case atStart => exact ⟨0, _, _, by omega, hT0, by show _ = _; rw [valq_nil, tst_zero], by show _ = _; simp, bb, rfl⟩
      case round =>
        obtain ⟨k, us, pss, hk, hT, HV, HUL, hbw, rfl⟩ := hrel
        clear hT0 bb
        have bb := hbw
        clear hbw
        have hszr := bb.size
        by_cases hlt : k < t.length
        · have hnt : t ≠ [] := List.length_pos_iff.1 (by omega)
          obtain ⟨x, hx⟩ : ∃ x, t[k]? = some x := ⟨_, List.getElem?_eq_getElem hlt⟩
          have HX := Lib.hid hx
          have hxm := List.mem_of_getElem? hx
          have HXL : Hid (x.length = wideq t) := HL.out.2.2.1 x hxm
          have lx : ∀ y ∈ x, lenQ y 100000 := HL.out.2.2.2 x hxm
          obtain ⟨ad0, rfl⟩ := st0.place hnt
          obtain ⟨Arx, crx, hix, ewx, srx⟩ := st0.at2 hx
          clear hx hxm
          have ecx := (bb.cell (World.block_lt_of_cell? w _ ewx)).trans ewx
          have bl : Below wr.heap.size wr wr := Below.refl _ _
          have sB := bb.size
          go_upto_region 5 with (fail)
          refine flowp 3 [Pd.eq (.pointer (some (ad0.add k))), Pd.eq (.slice Arx x.length crx), Pd.eq (.slice Arx x.length crx)] (by kernel_rfl) ?ob3 ?done3
          case ob3 =>
            refine And.intro (ob_indexAddr rfl (wt_none rfl) (ev_far rfl rfl) (ev_far rfl rfl) (fun _ _ _ hx hy => ⟨_, by rw [hx, hy]; exact index1_any (k := k) Tryz.underlying22 (by kernel_rfl) ad0 hlt _, rfl⟩)) ?_
            refine And.intro (ob_load rfl (wt_none rfl) (ev_dep (j := 0) (by kernel_rfl) rfl rfl) (fun w2 hb => run_load1 Tryz.underlying64 rfl ((hb.cell (World.block_lt_of_cell? wr _ ecx)).trans ecx)) (fun _ _ => rfl)) ?_
            refine And.intro (ob_assign rfl (wt_none rfl) (ev_dep (j := 1) (by kernel_rfl) rfl rfl) (fun _ _ h => h)) ?_
            trivial
          case done3 =>
            refine fun w14 hb14 v0 h0 v1 h1 v2 h2 b hbf => ?_
            obtain rfl := h0; obtain rfl := h1; obtain rfl := h2
            simp only [Act.put, List.setIfInBounds_toArray, List.set_cons_zero, List.set_cons_succ] at hbf
            subst hbf
            replace bb := bb.trans (hb14.mono bb.size)
            have hsz14 := bb.size
            replace bl := bl.trans (hb14.mono bl.size)
            refine ops_done ?_
            clear ecx
            have sB := bb.size
            go_upto_region 6 with (fail)
            refine flowp 3 [Pd.eq (.slice Arx x.length crx), Pd.eq (.int .i64 ((x.length : Nat) : Int)), Pd.eq (.int .i64 0)] (by kernel_rfl) ?ob4 ?done4
            case ob4 =>
              refine And.intro (ob_move rfl (wt_none rfl) (ev_far rfl rfl) (fun _ _ h => h)) ?_
              refine And.intro (ob_len rfl (wt_none rfl) (ev_dep (j := 0) (by kernel_rfl) rfl rfl) (fun _ _ hx => ⟨_, by rw [hx]; exact len_slice Tryz.underlying64 _ _ _ _, rfl⟩)) ?_
              refine And.intro (ob_move rfl (wt_none rfl) (ev_const _) (fun _ _ h => h)) ?_
              trivial
            case done4 =>
              refine fun w15 hb15 v0 h0 v1 h1 v2 h2 b hbf => ?_
              obtain rfl := h0; obtain rfl := h1; obtain rfl := h2
              simp only [Act.put, List.setIfInBounds_toArray, List.set_cons_zero, List.set_cons_succ] at hbf
              subst hbf
              replace bb := bb.trans (hb15.mono bb.size)
              have hsz15 := bb.size
              replace bl := bl.trans (hb15.mono bl.size)
              refine ops_done ?_
              have hT1 := hT.below bl
              go_wp2
              go_loopw [25] (fun v25 wr => ∃ (i : Nat) (us' : List Value) (pss' : List (List Elt)), i ≤ x.length ∧ TabR wr w.heap.size (.slice (some ⟨g, 0, none⟩) (wideq t) (wideq t)) us' pss' ∧ Hid (valq pss' = tst t k i) ∧ Hid (us'.length = wideq t) ∧ Below w.heap.size w wr ∧ v25 = .int .i64 (i : Int)) (fun v25 _ => x.length - (intOf v25).toNat)
              case atStart => exact ⟨0, _, _, by omega, hT1, HV, HUL, bb, rfl⟩
              case round =>
                obtain ⟨i, us', pss', hi, hTi, HVi, HULi, hbw, rfl⟩ := hrel
                clear hT1 hT bb bl HV HUL
                have bb := hbw
                clear hbw
                have hszi := bb.size
                by_cases hlti : i < x.length
                · have bl : Below wr.heap.size wr wr := Below.refl _ _
                  have hxne : x ≠ [] := List.length_pos_iff.1 (by omega)
                  have sl9 := srx
                  obtain ⟨y, hq9_⟩ : ∃ y, x[i]? = some y := ⟨_, List.getElem?_eq_getElem hlti⟩
                  obtain ⟨g9_, o9_, ue9, te9, hA9_, _, e90, e91, e92, es9, ed9⟩ := (sl9.below bb).at_ hq9_
                  subst hA9_
                  have HQ9 := Lib.hid hq9_
                  clear hq9_
                  obtain ⟨Ae9, ce9, rfl, _⟩ := id es9
                  obtain ⟨De9, ee9, rfl, _⟩ := id ed9
                  have ke9 : IsQ wr (.agg #[.bool (ngB y.num), .slice Ae9 (digs 4294967296 y.num.natAbs).length ce9, .slice De9 (digs 4294967296 y.den).length ee9]) y := ⟨_, _, rfl, es9, ed9⟩
                  have sB := bb.size
                  go_upto_region 8 with (fail)
                  refine flowp 5 [Pd.eq (.int .i64 (i : Int)), Pd.eq (.pointer (some ⟨g9_, o9_ + i * 3, none⟩)), Pd.eq (.agg #[.bool (ngB y.num), .slice Ae9 (digs 4294967296 y.num.natAbs).length ce9, .slice De9 (digs 4294967296 y.den).length ee9]), pn 44 #[.bool false, .slice none 0 0, .slice none 0 0] wr.heap.size, Pd.eq (.int .i64 (i : Int))] (by kernel_rfl) ?ob5 ?done5
                  case ob5 =>
                    refine And.intro (ob_move rfl (wt_none rfl) (ev_far rfl rfl) (fun _ _ h => h)) ?_
                    refine And.intro (ob_indexAddr rfl (wt_none rfl) (ev_far rfl rfl) (ev_far rfl rfl) (fun _ _ _ hx hy => ⟨_, by rw [hx, hy]; exact index3 Tryz.underlying64 (by kernel_rfl) hlti _, rfl⟩)) ?_
                    refine And.intro (ob_load rfl (wt_none rfl) (ev_dep (j := 1) (by kernel_rfl) rfl rfl) (fun w2 hb => load3 Tryz.underlying44 rfl (by kernel_rfl) ((hb.cell (World.block_lt_of_cell? wr _ e90)).trans e90) ((hb.cell (World.block_lt_of_cell? wr _ e91)).trans e91) ((hb.cell (World.block_lt_of_cell? wr _ e92)).trans e92)) (fun _ _ => rfl)) ?_
                    refine And.intro (ob_alloc (z := .agg #[.bool false, .slice none 0 0, .slice none 0 0]) rfl rfl (fun _ => by kernel_rfl) (fun _ _ hB h => ⟨_, rfl, hB, h⟩)) ?_
                    refine And.intro (ob_assign rfl (wt_none rfl) (ev_dep (j := 0) (by kernel_rfl) rfl rfl) (fun _ _ h => h)) ?_
                    trivial
                  case done5 =>
                    refine fun w17 hb17 v0 h0 v1 h1 v2 h2 v3 h3 d3 v4 h4 b hbf => ?_
                    obtain rfl := h0; obtain rfl := h1; obtain rfl := h2; obtain rfl := h4
                    obtain ⟨g5_3, rfl, hg3, B3⟩ := h3
                    simp only [Act.put, List.setIfInBounds_toArray, List.set_cons_zero, List.set_cons_succ] at hbf
                    subst hbf
                    replace es9 := es9.below hb17
                    replace ed9 := ed9.below hb17
                    replace bb := bb.trans (hb17.mono bb.size)
                    have hsz17 := bb.size
                    replace bl := bl.trans (hb17.mono bl.size)
                    have BA9 := B3
                    have q2 := es9
                    have d2 := ed9
                    refine ops_store (i := 5) rfl rfl rfl rfl rfl rfl (cells := [.bool (ngB (y).num), .slice Ae9 (digs 4294967296 (y).num.natAbs).length ce9, .slice De9 (digs 4294967296 (y).den).length ee9]) rfl BA9 rfl (by kernel_rfl) (one3 rfl rfl rfl) fun w18 hg18 BN18 => ?_
                    replace q2 := off q2 BA9 no_ints3 hg18
                    replace d2 := off d2 BA9 no_ints3 hg18
                    replace bb := bb.trans ((Below.refl _ _).grown hg18 bb.size (fun g hg => by injection hg with hg; omega))
                    have hsz18 := bb.size
                    have Be9 : Blk w18 (g5_3) _ _ := BN18
                    have ke9s := q2
                    have ke9d := d2
                    have ke9z : IsZ w18 (.agg #[.bool (ngB (y).num), .slice Ae9 (digs 4294967296 (y).num.natAbs).length ce9]) ((y).num) := ⟨_, rfl, ke9s⟩
                    have ke9 : IsQ w18 (.agg #[.bool (ngB (y).num), .slice Ae9 (digs 4294967296 (y).num.natAbs).length ce9, .slice De9 (digs 4294967296 (y).den).length ee9]) (y) := ⟨_, _, rfl, ke9s, ke9d⟩
                    refine ops_done ?_
                    replace bl := bl.trans ((Below.refl _ _).grown hg18 bl.size (fun g hg => by injection hg with hg; omega))
                    have ly : lenQ y 100000 := lx y (List.mem_of_getElem? HQ9.out)
                    have hiw : i < wideq t := by have := HXL.out; omega
                    obtain ⟨u, hu⟩ : ∃ u, us'[i]? = some u := ⟨_, List.getElem?_eq_getElem (by have := HULi.out; omega)⟩
                    obtain ⟨ps, hps⟩ : ∃ ps, pss'[i]? = some ps := ⟨_, List.getElem?_eq_getElem (by rw [← hTi.len]; have := HULi.out; omega)⟩
                    have HU := Lib.hid hu
                    have HPS := Lib.hid hps
                    have HP : Hid (ps.map (·.1) = colq (t.take k) i) := by
                      have h2 := valq_at hps
                      rw [HVi.out, tst_self hiw] at h2
                      exact (Option.some.inj h2).symm
                    have HST : Hid ((tst t k i).set i (colq (t.take k) i ++ [y]) = tst t k (i + 1)) := tst_set hiw HX.out HQ9.out
                    have HL8 : Hid (ps.length ≤ 1000000000) := by
                      have h2 := congrArg List.length HP.out
                      rw [List.length_map, colq_len, List.length_take] at h2
                      show _ ≤ _
                      omega
                    have bd := bl.drew
                    have TD := hTi.below bd
                    obtain ⟨Au, cu, eu, _⟩ := (TD.own i u ps hu hps).isVF
                    subst eu
                    have cD := TD.cell hu
                    have fD := TD.frozen i
                    have TDH := Lib.hid TD
                    have K_ := Lib.hid ke9
                    have Be9d : Blk w18.drew _ _ _ := Be9.drew
                    obtain ⟨x90, x91, x92, _, _, _⟩ := three Be9d
                    have hszD : w.heap.size ≤ w18.drew.heap.size := by have := bb.size; exact this
                    have ks_ := (ke9s).below (Below.refl _ w18).drew
                    have kd_ := (ke9d).below (Below.refl _ w18).drew
                    clear hu hps TD hTi
                    go_upto_region 9 with (fail)
                    go_region_law (first
                      | (refine step_append_q rfl (.tmp 35) (.tmp 38) rfl Tryz.underlying64 info_rat (v := .slice Au ps.length cu) (p := (y, .slice A6 (digs 4294967296 (y).num.natAbs).length c6, .slice D6 (digs 4294967296 (y).den).length e6)) (ps := ps) (by rfl) (by exact rC) (ad := ⟨w6.heap.size, 0, none⟩) (c := 1) (by rfl) (by exact cC0) (by exact cC1) (by exact cC2) rfl rfl HL8.out (by exact hszC) ?_; intro v7 w7 row7 bb7 HK7; have hV7 := TC.mid (by decide) HU.out HPS.out HK7.out; have c7 := hV7.cellAt HU.out; have f7 := hV7.frozenAt i; obtain ⟨A7, c7_, e7, _⟩ := row7.isVF; rw [List.length_append] at e7; subst e7)
                      | (go_simp; go_at_call 147; refine (mcopied_any _ y _ ⟨_, _, rfl, (by exact ks_), (by exact kd_)⟩ ly).mono ?_; rintro e w6 ⟨v6, rfl, k6, f6, b6⟩; have T6 := TDH.out.below b6; have cell6 := T6.cell HU.out; obtain ⟨u6, t6, rfl, q6, d6⟩ := k6; obtain ⟨A6, c6, rfl, _⟩ := id q6; obtain ⟨D6, e6, rfl, _⟩ := id d6; obtain ⟨cC0, cC1, cC2⟩ := new_cells w6 44 (.bool (ngB (y).num)) (.slice A6 (digs 4294967296 (y).num.natAbs).length c6) (.slice D6 (digs 4294967296 (y).den).length e6); have ba6 := below_alloc (w := w6) (Nat.le_refl _) (.cells #[.bool (ngB (y).num), .slice A6 (digs 4294967296 (y).num.natAbs).length c6, .slice D6 (digs 4294967296 (y).den).length e6] 44); have TC := T6.below ba6; have rC := TC.own i _ ps HU.out HPS.out; have hszC : w.heap.size ≤ (w6.alloc (.cells #[.bool (ngB (y).num), .slice A6 (digs 4294967296 (y).num.natAbs).length c6, .slice D6 (digs 4294967296 (y).den).length e6] 44)).heap.size := Nat.le_trans (Nat.le_trans hszD b6.size) ba6.size; have cellC := TC.cell HU.out))
                    all_goals
                      have fr1 := TDH.out.farNew (f6 _ _ _ rfl).1
                      have fr2 := TDH.out.farNew (f6 _ _ _ rfl).2
                      have hum := List.mem_of_getElem? HU.out
                      have EC : IsE .u64 4294967296 (w6.alloc (.cells #[.bool (ngB (y).num), .slice A6 (digs 4294967296 (y).num.natAbs).length c6, .slice D6 (digs 4294967296 (y).den).length e6] 44)) ((y, .slice A6 (digs 4294967296 (y).num.natAbs).length c6, .slice D6 (digs 4294967296 (y).den).length e6) : Elt) := ⟨q6.below ba6, d6.below ba6⟩
                      have F7 := (FarF.nil .u64 4294967296 (w6.alloc (.cells #[.bool (ngB (y).num), .slice A6 (digs 4294967296 (y).num.natAbs).length c6, .slice D6 (digs 4294967296 (y).den).length e6] 44)) (.slice Au ps.length cu)).snoc HK7.out.1 EC (fr1.1 _ hum) (fr2.1 _ hum)
                      have T8 := TC.put (by decide) HU.out HPS.out row7 HK7.out F7 (fun v hv q hq => by rw [List.mem_singleton.1 hq]; exact ⟨fr1.1 v hv, fr2.1 v hv⟩) (fun q hq => by rw [List.mem_singleton.1 hq]; exact ⟨fr1.2, fr2.2⟩)
                      have HV8 : Hid (valq (pss'.set i (ps ++ [((y, .slice A6 (digs 4294967296 (y).num.natAbs).length c6, .slice D6 (digs 4294967296 (y).den).length e6) : Elt)])) = tst t k (i + 1)) := by
                        show _ = _
                        rw [valq_set, HVi.out, List.map_append, HP.out]
                        exact HST.out
                      have b8 := ((((bb.drew).trans (b6.mono hszD)).trans (ba6.mono (Nat.le_trans hszD b6.size))).trans bb7).setCell (p := ⟨g, i, none⟩) hgw (.slice A7 (ps.length + [((y, .slice A6 (digs 4294967296 (y).num.natAbs).length c6, .slice D6 (digs 4294967296 (y).den).length e6) : Elt)].length) c7_)
                      have HUL8 : Hid ((us'.set i (.slice A7 (ps.length + [((y, .slice A6 (digs 4294967296 (y).num.natAbs).length c6, .slice D6 (digs 4294967296 (y).den).length e6) : Elt)].length) c7_)).length = wideq t) := by show _ = _; rw [List.length_set]; exact HULi.out
                      have hsk : x.length - (i + 1) < x.length - i := by omega
                      clear TC T6 row7 HK7 hV7 rC cC0 cC1 cC2 cellC cell6 F7 EC ks_ kd_ b6 ba6 bb7 q6 d6
                      go_wp2
                      go_roundw
                      case rel => exact ⟨i + 1, _, _, by omega, T8, HV8, HUL8, b8, by go_num⟩
                      case measure => simp [intOf]; omega
                · obtain rfl : i = x.length := by omega
                  have HV9 : Hid (valq pss' = tst t (k + 1) 0) := by show _ = _; rw [HVi.out, HXL.out, tst_next]
                  clear HVi
                  go_wp2
                  refine ⟨⟨k + 1, us', pss', by omega, hTi, HV9, HULi, bb, by go_num⟩, ?_⟩
                  simp [intOf]; omega
        · obtain rfl : k = t.length := by omega
          have hS := hT.slT
          rw [HV.out, tst_end] at hS
          clear hT HV
          go_wp2
          go_ret
          exact ⟨_, rfl, hS, bb⟩
theorem heap_setCell {w : World} {g i : Nat} {u : Value} {cs : Array Value} {e : TypeId} (h : w.heap[g]? = some (.cells cs e (0, 0))) : (w.setCell ⟨g, i, none⟩ u).heap[g]? = some (.cells (cs.setIfInBounds i u) e (0, 0)) := by
  simp [World.setCell, Array.getElem?_modify, h]
theorem TabS.stored {k : IntKind} {B : Nat} {w : World} {g : Nat} {TS : TypeId} {us : List Value} {t : List (List Rat)} (h : TabS k B w g TS us t) (i : Nat) {u : Value} {r : List Rat} (hu : SlF k B w u r) : TabS k B (w.setCell ⟨g, i, none⟩ u) g TS (us.set i u) (t.set i r) := h.put (grown_set w g i u) (heap_setCell h.1.1) hu
theorem TabS.cellAt {k : IntKind} {B : Nat} {w : World} {g : Nat} {TS : TypeId} {us : List Value} {t : List (List Rat)} (h : TabS k B w g TS us t) {i : Nat} (hi : i < t.length) : ∃ u, w.cell? ⟨g, i, none⟩ = some u := by
  have hu : us[i]? = some (us[i]'(by rw [h.2.1]; exact hi)) := List.getElem?_eq_getElem _
  have := h.1.cell hu
  rw [addr_zero] at this
  exact ⟨_, this⟩
theorem TabS.frozenAt {k : IntKind} {B : Nat} {w : World} {g : Nat} {TS : TypeId} {us : List Value} {t : List (List Rat)} (h : TabS k B w g TS us t) (i : Nat) : w.frozen? ⟨g, i, none⟩ = false := h.1.1.frozen i
theorem partq_len {α : Type} {T : List (List α)} {k n : Nat} (h : T.length = n) (hk : k ≤ n) : (partq T k n).length = n := by
  unfold partq
  rw [List.length_append, List.length_take, List.length_replicate, h]; omega
theorem retTE_no (n : Int) (hn : n ≠ 0) {w w' : World} (hb : Below w.heap.size w w') : RetTE [] n w (.returned (.tuple #[.slice none 0 0, .int .i64 n])) w' := ⟨_, rfl, by rw [if_neg hn]; exact slT_nil _ _ _, hb⟩
set_option maxHeartbeats 3200000 in
set_option maxRecDepth 100000 in
theorem mproduct_any (a0 a1 : Value) (p q : List (List Rat)) (m n : Nat) (w : World) (h0 : SlT .u64 4294967296 w a0 p) (h1 : SlT .u64 4294967296 w a1 q) (he : ∀ r ∈ p, r.length = q.length)
    (hl : p.length ≤ 1000 ∧ q.length ≤ 1000 ∧ wideq q ≤ 1000 ∧ evenq q ∧ lenT p m ∧ lenT q n ∧ 1 ≤ n ∧ n ≤ 900 ∧ (n + m + 1) * q.length + 1 ≤ 900) :
    Calls Tryz.prog 71 #[a0, a1] w (RetSlT .u64 4294967296 (mulq p q) w) := by
  have st0 := h0
  obtain ⟨A0, c0, rfl, hc0, hm0⟩ := h0.shape
  unfold maxLen at hm0
  have st1 := h1
  obtain ⟨A1, c1, rfl, hc1, hm1⟩ := h1.shape
  unfold maxLen at hm1
  have HL := Lib.hid hl
  have HE := Lib.hid he
  have hpl : p.length ≤ 1000 := hl.1
  have HTQ : Hid (q.length ≤ 1000 ∧ wideq q ≤ 1000 ∧ evenq q ∧ lenT q 100000) := ⟨hl.2.1, hl.2.2.1, hl.2.2.2.1, hl.2.2.2.2.2.1.mono (Nat.le_trans hl.2.2.2.2.2.2.2.1 (by decide))⟩
  have HTT : Hid ((mulq p q).length = p.length) := mulq_len p q
  have HD : Hid ((turnq q).length ≤ 1000 ∧ lenT (turnq q) n) := ⟨by rw [turnq_len]; exact hl.2.2.1, lenT_turn hl.2.2.2.2.2.1 hl.2.2.2.2.2.2.1⟩
  clear hl he
  go_enter Tryz.func71, Tryz.ntmps71
  go_wp2_with fail
  refine (mturned_any _ q _ st1 HTQ.out).mono ?_
  rintro e w2 ⟨C, rfl, SC, b2⟩
  obtain ⟨AC, cC, rfl, hcC, hmC⟩ := SC.shape
  go_wp2_with fail
  refine (mbare_any _ p.length _ rfl (by omega)).mono ?_
  rintro e w3 ⟨g, rfl, TB, hg, b3⟩
  have TS0 : TabS .u64 4294967296 w3 g 64 (List.replicate p.length (.slice none 0 0)) (partq (mulq p q) 0 p.length) := by rw [partq_zero]; exact TB.bare
  clear TB
  go_wp2
  go_loopw [16] (fun v16 wr => ∃ (k : Nat) (us : List Value), k ≤ p.length ∧ TabS .u64 4294967296 wr g 64 us (partq (mulq p q) k p.length) ∧ Below w2.heap.size w2 wr ∧ v16 = .int .i64 (k : Int)) (fun v16 _ => p.length - (intOf v16).toNat)
  case atStart => exact ⟨0, _, by omega, TS0, b3, rfl⟩
  case round =>
    obtain ⟨k, us, hk, TS, hb2, rfl⟩ := hrel
    clear TS0 b3
    have bb : Below w.heap.size w wr := b2.trans (hb2.mono b2.size)
    by_cases hlt : k < p.length
    · have hnp : p ≠ [] := List.length_pos_iff.1 (by omega)
      obtain ⟨x, hx⟩ : ∃ x, p[k]? = some x := ⟨_, List.getElem?_eq_getElem hlt⟩
      have hxm := List.mem_of_getElem? hx
      obtain ⟨ad, rfl⟩ := st0.place hnp
      obtain ⟨Ax, cx, hi, ewx, srx⟩ := st0.at2 hx
      have ecx := (bb.cell (World.block_lt_of_cell? w _ ewx)).trans ewx
      have HXL : Hid (x.length = q.length) := HE.out x hxm
      have HAT : Hid ((mulq p q)[k]? = some (dotsq (turnq q) x)) := by show _ = _; rw [dotsq_turn]; exact mulq_at hx
      have SCr := SC.below hb2
      have HDX : Hid ((∀ r ∈ turnq q, r.length = x.length) ∧ (turnq q).length ≤ 1000 ∧ x.length ≤ 1000 ∧ lenT (turnq q) n ∧ (∀ y ∈ x, lenQ y m) ∧ (n + m + 1) * x.length + 1 ≤ 900) := ⟨fun r hr => by rw [turnq_rows r hr, HXL.out], HD.out.1, by rw [HXL.out]; exact HL.out.2.1, HD.out.2, HL.out.2.2.2.2.1 x hxm, by rw [HXL.out]; exact HL.out.2.2.2.2.2.2.2.2⟩
      have hsx := srx.below bb
      clear hx hxm ewx srx
      go_wp2_with fail
      refine (mdots_any _ _ (turnq q) x n m _ SCr hsx HDX.out.1 HDX.out.2).mono ?_
      rintro e w4 ⟨R, rfl, sR, b4⟩
      obtain ⟨AR, cR, rfl, _, _⟩ := sR.shape
      have TS4 := TS.below b4
      obtain ⟨u0, c4⟩ := TS4.cellAt (i := k) (by rw [partq_len HTT.out hk]; exact hlt)
      have f4 := TS4.frozenAt k
      have TS5 := TS4.stored k sR
      rw [partq_set HTT.out HAT.out] at TS5
      have hb5 := (hb2.trans (b4.mono hb2.size)).setCell (p := ⟨g, k, none⟩) hg (.slice AR (dotsq (turnq q) x).length cR)
      have hsk : p.length - (k + 1) < p.length - k := by omega
      clear TS TS4 sR ecx SCr hsx
      go_wp2
      go_roundw
      case rel => exact ⟨k + 1, _, by omega, TS5, hb5, by go_num⟩
      case measure => simp [intOf]; omega
    · obtain rfl : k = p.length := by omega
      rw [partq_full HTT.out] at TS
      have hS := TS.slT HTT.out (by omega)
      clear TS
      go_wp2
      go_ret
      exact ⟨_, rfl, hS, bb⟩
theorem ListT.tail {w : World} {ad : Addr} {n c : Nat} {ts : List (List (List Rat))} (h : ListT w (.slice (some ad) n c) ts) (hne : ts ≠ []) : ListT w (.slice (if c = 1 then some ad else some (ad.add 1)) (n - 1) (c - 1)) ts.tail := by
  obtain ⟨us, h1, ⟨A, c', e, hc, hcell⟩, h3, h4⟩ := h
  injection e with e1 e2 e3
  subst e1; subst e2; subst e3
  have hpos : 0 < ts.length := List.length_pos_iff.2 hne
  refine ⟨us.tail, by rw [List.length_tail, List.length_tail, h1], ?_, by rw [List.length_tail]; omega, fun i u t hu ht => ?_⟩
  · by_cases h2 : c = 1
    · have : us.tail = [] := List.length_eq_zero_iff.1 (by rw [List.length_tail]; omega)
      rw [this]
      exact ⟨_, _, by rw [show us.length - 1 = 0 by omega]; rfl, by simp, fun i u hu => by simp at hu⟩
    · rw [if_neg h2]
      refine ⟨some (ad.add 1), c - 1, by rw [List.length_tail], by rw [List.length_tail]; omega, fun i u hu => ?_⟩
      rw [List.getElem?_tail] at hu
      obtain ⟨ad', ha, hc2⟩ := hcell (i + 1) u hu
      injection ha with ha; subst ha
      refine ⟨_, rfl, ?_⟩
      have e : (ad.add 1).add i = ad.add (i + 1) := by
        unfold Addr.add
        by_cases hi : i = 0
        · simp [hi]
        · simp [hi]; omega
      rw [e]; exact hc2
  · rw [List.getElem?_tail] at hu ht
    exact h4 (i + 1) u t hu ht
/-- Does the table at this place fit: it may be, and it has as many rows as the one ahead has places. -/
def okAt (ts : List (List (List Rat))) (i : Nat) (t : List (List Rat)) : Prop := mayq t ∧ ∀ (s : List (List Rat)), 0 < i → ts[i - 1]? = some s → wideq s = t.length
/-- How long the numbers of a product of so many are. -/
def bnd : Nat → Nat
  | 0 => 10
  | n + 1 => (bnd n + bnd n + 1) * 4 + 1
theorem bnd_one (n : Nat) : 10 ≤ bnd n := by
  induction n with
  | zero => exact Nat.le_refl _
  | succ n ih => show 10 ≤ (bnd n + bnd n + 1) * 4 + 1; omega
theorem foldl_take_snoc {α β : Type} (f : α → β → α) (a : α) {l : List β} {j : Nat} {x : β} (h : l[j]? = some x) : (l.take (j + 1)).foldl f a = f ((l.take j).foldl f a) x := by
  rw [List.take_add_one, h]
  simp [List.foldl_append]
set_option maxHeartbeats 6400000 in
set_option maxRecDepth 100000 in
theorem mmul_any (a0 : Value) (ts : List (List (List Rat))) (w : World) (h0 : ListT w a0 ts) (hl : ts.length ≤ 3 ∧ ∀ t ∈ ts, t.length ≤ 4 ∧ (∀ r ∈ t, r.length ≤ 4) ∧ lenT t 10) :
    Calls Tryz.prog 25 #[a0] w (fun e w' => (fitsq ts ∧ RetTE (prodT ts) 0 w e w') ∨ (¬ fitsq ts ∧ RetTE [] 8 w e w')) := by
  have st0 := h0
  obtain ⟨A0, c0, rfl, hc0⟩ := h0.shape
  have HL := Lib.hid hl
  have hl3 : ts.length ≤ 3 := hl.1
  clear hl
  go_enter Tryz.func25, Tryz.ntmps25
  by_cases hn : ts = []
  · subst hn
    go_wp2
    go_ret2
    exact .inr ⟨fun h => h.1 rfl, retTE_no 8 (by decide) (Below.refl _ _)⟩
  have hpos : 0 < ts.length := List.length_pos_iff.2 hn
  have hne0 : ¬ ((ts.length : Nat) : Int) = 0 := by omega
  have hneb : (((ts.length : Nat) : Int) == 0) = false := by rw [beq_eq_false_iff_ne]; omega
  obtain ⟨ad, rfl⟩ := st0.place hn
  go_wp2
  go_loopw [14] (fun v14 wr => ∃ k : Nat, k ≤ ts.length ∧ Hid (∀ (i : Nat) (t : List (List Rat)), i < k → ts[i]? = some t → okAt ts i t) ∧ Below w.heap.size w wr ∧ v14 = .int .i64 (k : Int)) (fun v14 _ => ts.length - (intOf v14).toNat)
  case atStart => exact ⟨0, by omega, (by show ∀ i, _; intro i t hi; omega), Below.refl _ _, rfl⟩
  case round =>
    obtain ⟨k, hk, HA, bb, rfl⟩ := hrel
    by_cases hlt : k < ts.length
    · obtain ⟨t, ht⟩ : ∃ t, ts[k]? = some t := ⟨_, List.getElem?_eq_getElem hlt⟩
      have HT := Lib.hid ht
      obtain ⟨At, ct, hit, ect, stt⟩ := (st0.below bb).at2 ht
      clear ht
      by_cases hm : mayq t
      · have HM := Lib.hid hm
        clear hm
        go_wp2_with fail
        refine (mmay_any _ t true _ stt (decide_eq_true HM.out).symm).mono ?_
        rintro e w2 ⟨rfl, b2⟩
        have bb2 := bb.trans (b2.mono bb.size)
        have stt2 := stt.below b2
        clear ect stt b2
        by_cases hk0 : 0 < k
        · obtain ⟨j, rfl⟩ : ∃ j, k = j + 1 := ⟨k - 1, by omega⟩
          obtain ⟨s, hs⟩ : ∃ s, ts[j]? = some s := ⟨_, List.getElem?_eq_getElem (by omega)⟩
          have HS := Lib.hid hs
          obtain ⟨As, cs, his, ecs, sts⟩ := (st0.below bb2).at2 hs
          have hgt : (0 : Int) < ((j + 1 : Nat) : Int) := by omega
          clear hs
          go_wp2_with fail
          by_cases hf : wideq s = t.length
          · have HF := Lib.hid hf
            clear hf
            refine (mfit_any _ _ s t true _ sts stt2 (decide_eq_true HF.out).symm).mono ?_
            rintro e w3 ⟨rfl, b3⟩
            have bb3 := bb2.trans (b3.mono bb2.size)
            have HA2 : Hid (∀ (i : Nat) (t : List (List Rat)), i < j + 1 + 1 → ts[i]? = some t → okAt ts i t) := by
              show ∀ i, _
              intro i t' hi h'
              by_cases e : i = j + 1
              · subst e
                rw [HT.out] at h'
                injection h' with h'
                subst h'
                refine ⟨HM.out, fun s' _ hs' => ?_⟩
                rw [Nat.add_sub_cancel, HS.out] at hs'
                injection hs' with hs'
                subst hs'
                exact HF.out
              · exact HA.out i t' (by omega) h'
            have hsk : ts.length - (j + 1 + 1) < ts.length - (j + 1) := by omega
            clear ecs sts stt2 b3 HA
            go_wp2
            go_roundw
            case rel => exact ⟨j + 1 + 1, by omega, HA2, bb3, by go_num⟩
            case measure => simp [intOf]; omega
          · have HF := Lib.hid hf
            clear hf
            refine (mfit_any _ _ s t false _ sts stt2 (decide_eq_false HF.out).symm).mono ?_
            rintro e w3 ⟨rfl, b3⟩
            have bb3 := bb2.trans (b3.mono bb2.size)
            have HN : Hid (¬ fitsq ts) := fun h => HF.out ((h.2 (j + 1) t HT.out).2 s (by omega) (by rw [Nat.add_sub_cancel]; exact HS.out))
            clear ecs sts stt2 b3 HA
            go_wp2
            go_ret2
            exact .inr ⟨HN.out, retTE_no 8 (by decide) bb3⟩
        · have hgt : ¬ (0 : Int) < (k : Int) := by omega
          have HA2 : Hid (∀ (i : Nat) (t : List (List Rat)), i < k + 1 → ts[i]? = some t → okAt ts i t) := by
            show ∀ i, _
            intro i t' hi h'
            obtain rfl : i = k := by omega
            rw [HT.out] at h'
            injection h' with h'
            subst h'
            exact ⟨HM.out, fun s' h0' _ => absurd h0' hk0⟩
          have hsk : ts.length - (k + 1) < ts.length - k := by omega
          clear HA stt2
          go_wp2
          go_roundw
          case rel => exact ⟨k + 1, by omega, HA2, bb2, by go_num⟩
          case measure => simp [intOf]; omega
      · have HM := Lib.hid hm
        clear hm
        go_wp2_with fail
        refine (mmay_any _ t false _ stt (decide_eq_false HM.out).symm).mono ?_
        rintro e w2 ⟨rfl, b2⟩
        have bb2 := bb.trans (b2.mono bb.size)
        have HN : Hid (¬ fitsq ts) := fun h => HM.out (h.2 k t HT.out).1
        go_wp2
        go_ret2
        exact .inr ⟨HN.out, retTE_no 8 (by decide) bb2⟩
    · obtain rfl : k = ts.length := by omega
      have HF : Hid (fitsq ts) := ⟨hn, fun i t ht => HA.out i t (List.getElem?_eq_some_iff.1 ht).1 ht⟩
      obtain ⟨t0, ht0⟩ : ∃ t0, ts[0]? = some t0 := ⟨_, List.getElem?_eq_getElem hpos⟩
      have HT0 := Lib.hid ht0
      have bd := bb.drew
      obtain ⟨At, ct, hit, ecd, std⟩ := (st0.below bd).at2 ht0
      have HB0 : Hid (t0.length ≤ 4 ∧ (∀ r ∈ t0, r.length ≤ 4) ∧ lenT t0 10) := HL.out.2 t0 (List.mem_of_getElem? ht0)
      have ht04 : t0.length ≤ 4 := HB0.out.1
      have ead : ad.add 0 = ad := by simp [Addr.add]
      rw [ead] at ecd
      have ecz : wr.cell? ad = some (.slice At t0.length ct) := ecd
      clear ht0 HA
      go_upto_region 9 with (fail)
      go_region_law (first
        | (go_simp; go_at_call 67; refine (mbare_any _ t0.length _ rfl (by omega)).mono ?_; rintro e w4 ⟨g, rfl, TB, hg, b4⟩; have TO : TabR w4 wr.drew.heap.size _ _ _ := TB.owned hg (by omega); have ec4 := (b4.cell (World.block_lt_of_cell? _ _ ecd)).trans ecd)
        | (go_simp; go_at_call 70; refine (mjoined_any g t0.length t0.length _ _ _ t0 wr.drew w4 TO std b4 (by simp) rfl hg ⟨fun r hr => by rw [valq_nil] at hr; rw [(List.mem_replicate.1 hr).2]; exact Nat.zero_le _, fun r hr => Nat.le_trans (HB0.out.2.1 r hr) (by decide), HB0.out.2.2.mono (by decide)⟩).mono ?_; rintro e w5 ⟨us5, pss5, rfl, T5, V5, L5, b5⟩))
      all_goals
        have SA : SlT .u64 4294967296 w5 (.slice (some ⟨g, 0, none⟩) t0.length t0.length) t0 := by
          have h := T5.slT
          rw [V5, valq_nil, joinq_nil] at h
          exact h
        have bb5 : Below w.heap.size w w5 := bd.trans ((b4.trans b5).mono bd.size)
        obtain ⟨A', hA', stT⟩ : ∃ A' : Addr, (if c0 = 1 then some ad else some ({ block := ad.block, off := ad.off + 1 } : Addr)) = some A' ∧ ListT w (.slice (some A') (ts.length - 1) (c0 - 1)) ts.tail := by
          have h := st0.tail hn
          by_cases hc1 : c0 = 1
          · rw [if_pos hc1] at h
            exact ⟨ad, by rw [if_pos hc1], h⟩
          · rw [if_neg hc1] at h
            exact ⟨_, by rw [if_neg hc1]; simp [Addr.add], h⟩
        have h1n : (1 : Int) ≤ ((ts.length : Nat) : Int) := by omega
        have HTL : Hid (ts.tail.length = ts.length - 1) := List.length_tail
        clear T5 V5 L5 TB TO b4 b5 std ecz ecd bb bd
        go_wp2
        go_loopw [6, 49] (fun v6 v49 wr => ∃ (j : Nat) (ans : List (List Rat)), j ≤ ts.length - 1 ∧ SlT .u64 4294967296 wr v6 ans ∧ Hid (ans = (ts.tail.take j).foldl mulq t0) ∧ Hid ((∀ s, ts[j]? = some s → ∀ r ∈ ans, r.length = wideq s) ∧ ans.length ≤ 4 ∧ lenT ans (bnd j)) ∧ Below w.heap.size w wr ∧ v49 = .int .i64 (j : Int)) (fun _ v49 _ => (ts.length - 1) - (intOf v49).toNat)
        case atStart => exact ⟨0, t0, by omega, SA, by show _ = _; rw [List.take_zero]; rfl, ⟨fun s hs r hr => by rw [HT0.out] at hs; injection hs with hs; subst hs; exact ((HF.out.2 0 t0 HT0.out).1.2.2 r hr), HB0.out.1, HB0.out.2.2⟩, bb5, rfl⟩
        case round =>
          clear SA bb5
          obtain ⟨j, ans, hj, SA, HAN, HAB, bb, rfl⟩ := hrel
          obtain ⟨AA, cA, eA, _, _⟩ := SA.shape
          subst eA
          by_cases hlt2 : j < ts.length - 1
          · obtain ⟨t, ht⟩ : ∃ t, ts.tail[j]? = some t := ⟨_, List.getElem?_eq_getElem (by rw [HTL.out]; exact hlt2)⟩
            have HT := Lib.hid ht
            obtain ⟨At1, ct1, hit1, ect, stt⟩ := (stT.below bb).at2 ht
            have ht1 : ts[j + 1]? = some t := by rw [List.getElem?_tail] at ht; exact ht
            obtain ⟨s, hs⟩ : ∃ s, ts[j]? = some s := ⟨_, List.getElem?_eq_getElem (by omega)⟩
            have hok := HF.out.2 (j + 1) t ht1
            have htm := List.mem_of_getElem? ht1
            have hws : wideq s = t.length := hok.2 s (by omega) (by rw [Nat.add_sub_cancel]; exact hs)
            have hj1 : bnd j ≤ 85 := by
              rcases (by omega : j = 0 ∨ j = 1) with rfl | rfl
              · decide
              · decide
            have htl : t.length ≤ 4 := (HL.out.2 t htm).1
            have hrows : ∀ r ∈ ans, r.length = t.length := fun r hr => by rw [HAB.out.1 s hs r hr, hws]
            have hmul : (10 + bnd j + 1) * t.length + 1 ≤ 900 := by
              have := Nat.mul_le_mul (show 10 + bnd j + 1 ≤ 96 by omega) htl
              omega
            have HPR : Hid ((∀ r ∈ ans, r.length = t.length) ∧ ans.length ≤ 1000 ∧ t.length ≤ 1000 ∧ wideq t ≤ 1000 ∧ evenq t ∧ lenT ans (bnd j) ∧ lenT t 10 ∧ 1 ≤ 10 ∧ 10 ≤ 900 ∧ (10 + bnd j + 1) * t.length + 1 ≤ 900) := ⟨hrows, by have := HAB.out.2.1; omega, by omega, Nat.le_trans hok.1.2.1 (by decide), hok.1.2.2, HAB.out.2.2, (HL.out.2 t htm).2.2, by decide, by decide, hmul⟩
            have HAN2 : Hid (mulq ans t = (ts.tail.take (j + 1)).foldl mulq t0) := by show _ = _; rw [foldl_take_snoc mulq t0 HT.out, HAN.out]
            have HAB2 : Hid ((∀ s, ts[j + 1]? = some s → ∀ r ∈ mulq ans t, r.length = wideq s) ∧ (mulq ans t).length ≤ 4 ∧ lenT (mulq ans t) (bnd (j + 1))) := by
              refine ⟨fun s' hs' r hr => ?_, by rw [mulq_len]; exact HAB.out.2.1, ?_⟩
              · rw [ht1] at hs'
                injection hs' with hs'
                subst hs'
                exact mulq_rows r hr
              · exact lenT_mul HAB.out.2.2 ((HL.out.2 t htm).2.2.mono (bnd_one j)) (Nat.le_trans (by decide) (bnd_one j)) hrows htl
            clear ht ht1 hs hok htm hws hrows hmul
            go_wp2_with fail
            refine (mproduct_any _ _ ans t (bnd j) 10 _ SA stt HPR.out.1 HPR.out.2).mono ?_
            rintro e w7 ⟨V7, rfl, S7, b7⟩
            have bb7 := bb.trans (b7.mono bb.size)
            have hsk : ts.length - 1 - (j + 1) < ts.length - 1 - j := by omega
            obtain ⟨A7, c7, e7, _, _⟩ := S7.shape
            subst e7
            clear SA stt ect HAN HAB
            go_wp2
            go_roundw
            case rel => exact ⟨j + 1, mulq ans t, by omega, S7, HAN2, HAB2, bb7, by go_num⟩
            case measure => simp [intOf]; omega
          · obtain rfl : j = ts.length - 1 := by omega
            have HE : Hid (ans = prodT ts) := by
              show _ = _
              rw [HAN.out, List.take_of_length_le (by rw [HTL.out]; exact Nat.le_refl _), prodT]
              congr 1
              cases ts with
              | nil => exact absurd rfl hn
              | cons a l => have h := HT0.out; simpa using h.symm
            have hS : SlT .u64 4294967296 wr (.slice AA ans.length cA) (prodT ts) := by rw [← HE.out]; exact SA
            clear SA HAN HAB
            go_wp2
            go_ret2
            exact .inl ⟨HF.out, _, rfl, by rw [if_pos rfl]; exact hS, bb⟩
/-- May all lie side by side: each may be, all with as many rows. -/
def besides (n : Nat) (ts : List (List (List Rat))) : Prop := ∀ t ∈ ts, mayq t ∧ t.length = n
theorem besideT_snoc {n j : Nat} {ts : List (List (List Rat))} {t : List (List Rat)} (h : ts[j]? = some t) : besideT n (ts.take (j + 1)) = joinq (besideT n (ts.take j)) t := foldl_take_snoc joinq _ h
theorem mem_joinq {α : Type} {P t : List (List α)} {r : List α} (h : r ∈ joinq P t) : ∃ p ∈ P, ∃ q ∈ t, r = p ++ q := by
  obtain ⟨i, hi⟩ := List.mem_iff_getElem?.1 h
  unfold joinq at hi
  rw [List.getElem?_zipWith] at hi
  cases hp : P[i]? with
  | none => rw [hp] at hi; cases hi
  | some p =>
    cases hq : t[i]? with
    | none => rw [hp, hq] at hi; cases hi
    | some q =>
      rw [hp, hq] at hi
      obtain rfl : p ++ q = r := by simpa using hi
      exact ⟨p, List.mem_of_getElem? hp, q, List.mem_of_getElem? hq, rfl⟩
theorem sum_take_snoc {l : List Nat} {j x : Nat} (h : l[j]? = some x) : (l.take (j + 1)).sum = (l.take j).sum + x := by
  rw [List.take_add_one, h]; simp
theorem sum_take_le : ∀ (l : List Nat) (j : Nat), (l.take j).sum ≤ l.sum
  | [], j => by simp
  | x :: l, 0 => by simp
  | x :: l, j + 1 => by have := sum_take_le l j; simp; omega
/-- A table of the call's own. -/
def RetTO (n : Nat) (t : List (List Rat)) (w : World) (e : Ending) (w' : World) : Prop := ∃ g us pss, e = .returned (.tuple #[.slice (some ⟨g, 0, none⟩) n n, .int .i64 0]) ∧ TabR w' w.heap.size (.slice (some ⟨g, 0, none⟩) n n) us pss ∧ valq pss = t ∧ us.length = n ∧ w.heap.size ≤ g ∧ Below w.heap.size w w'
set_option maxHeartbeats 6400000 in
set_option maxRecDepth 100000 in
theorem mbeside_own (a0 : Value) (ts : List (List (List Rat))) (t0 : List (List Rat)) (w : World) (h0 : ListT w a0 ts) (ht0 : ts[0]? = some t0) (hl : ts.length ≤ 3 ∧ (ts.map wideq).sum ≤ 200 ∧ (∀ t ∈ ts, lenT t 100000) ∧ t0.length ≤ 200) :
    Calls Tryz.prog 99 #[a0] w (fun e w' => (besides t0.length ts ∧ RetTO t0.length (besideT t0.length ts) w e w') ∨ (¬ besides t0.length ts ∧ RetTE [] 8 w e w')) := by
  have st0 := h0
  obtain ⟨A0, c0, rfl, hc0⟩ := h0.shape
  have HL := Lib.hid hl
  have hl3 : ts.length ≤ 3 := hl.1
  have hpos : 0 < ts.length := (List.getElem?_eq_some_iff.1 ht0).1
  have hn : ts ≠ [] := List.length_pos_iff.1 hpos
  have hneb : (((ts.length : Nat) : Int) == 0) = false := by rw [beq_eq_false_iff_ne]; omega
  have hne0 : ¬ ((ts.length : Nat) : Int) = 0 := by omega
  have ht02 : t0.length ≤ 200 := hl.2.2.2
  obtain ⟨ad, rfl⟩ := st0.place hn
  obtain ⟨At0, ct0, hit0, ew0, stt0⟩ := st0.at2 ht0
  have ead : ad.add 0 = ad := by simp [Addr.add]
  rw [ead] at ew0
  have HT0 := Lib.hid ht0
  clear hl ht0
  go_enter Tryz.func99, Tryz.ntmps99
  go_wp2
  go_loopw [4, 14] (fun v4 v14 wr => ∃ k S : Nat, k ≤ ts.length ∧ Hid (∀ (i : Nat) (t : List (List Rat)), i < k → ts[i]? = some t → mayq t ∧ t.length = t0.length) ∧ Hid (S = ((ts.map wideq).take k).sum) ∧ Below w.heap.size w wr ∧ v4 = .int .i64 (S : Int) ∧ v14 = .int .i64 (k : Int)) (fun _ v14 _ => ts.length - (intOf v14).toNat)
  case atStart => exact ⟨0, 0, by omega, (by show ∀ i, _; intro i t hi; omega), rfl, Below.refl _ _, rfl, rfl⟩
  case round =>
    obtain ⟨k, S, hk, HA, HS, bb, rfl, rfl⟩ := hrel
    have ec0 := (bb.cell (World.block_lt_of_cell? w _ ew0)).trans ew0
    by_cases hlt : k < ts.length
    · obtain ⟨t, ht⟩ : ∃ t, ts[k]? = some t := ⟨_, List.getElem?_eq_getElem hlt⟩
      have HT := Lib.hid ht
      obtain ⟨At, ct, hit, ect, stt⟩ := (st0.below bb).at2 ht
      have hS2 : ((ts.map wideq).take (k + 1)).sum = S + wideq t := by rw [sum_take_snoc (x := wideq t) (by rw [List.getElem?_map, ht]; rfl), HS.out]
      have hSle : S + wideq t ≤ 200 := by
        have h1 := sum_take_le (ts.map wideq) (k + 1)
        have h2 := HL.out.2.1
        omega
      have HS2 := Lib.hid hS2.symm
      clear ht hS2
      go_wp2_with fail
      refine (msize_any _ t _ stt).mono ?_
      rintro e w2 ⟨rfl, b2⟩
      have bb2 := bb.trans (b2.mono bb.size)
      have stt2 := stt.below b2
      have hov : (S : Int) + ((wideq t : Nat) : Int) ≤ 200 := by omega
      have hov2 : ¬ (200 : Int) < (S : Int) + ((wideq t : Nat) : Int) := by omega
      clear ect stt b2
      by_cases hm : mayq t
      · have HM := Lib.hid hm
        clear hm
        go_wp2_with fail
        refine (mmay_any _ t true _ stt2 (decide_eq_true HM.out).symm).mono ?_
        rintro e w3 ⟨rfl, b3⟩
        have bb3 := bb2.trans (b3.mono bb2.size)
        have ec3 := (bb3.cell (World.block_lt_of_cell? w _ ew0)).trans ew0
        clear stt2 b3
        by_cases hle : t.length = t0.length
        · have hne : (((t.length : Nat) : Int) != ((t0.length : Nat) : Int)) = false := by rw [bne_eq_false_iff_eq, hle]
          have hne' : ((t.length : Nat) : Int) = ((t0.length : Nat) : Int) := by rw [hle]
          have HLE := Lib.hid hle
          have HA2 : Hid (∀ (i : Nat) (t : List (List Rat)), i < k + 1 → ts[i]? = some t → mayq t ∧ t.length = t0.length) := by
            show ∀ i, _
            intro i t' hi h'
            by_cases e : i = k
            · subst e
              rw [HT.out] at h'
              injection h' with h'
              subst h'
              exact ⟨HM.out, HLE.out⟩
            · exact HA.out i t' (by omega) h'
          have hsk : ts.length - (k + 1) < ts.length - k := by omega
          clear hle HA ec0
          go_wp2
          go_roundw
          case rel => exact ⟨k + 1, S + wideq t, by omega, HA2, HS2, bb3, by go_num, by go_num⟩
          case measure => simp [intOf]; omega
        · have hne : (((t.length : Nat) : Int) != ((t0.length : Nat) : Int)) = true := by rw [bne_iff_ne]; omega
          have hne' : ¬ ((t.length : Nat) : Int) = ((t0.length : Nat) : Int) := by omega
          have HN : Hid (¬ besides t0.length ts) := fun h => hle (h t (List.mem_of_getElem? HT.out)).2
          clear hle HA ec0
          go_wp2
          go_ret2
          exact .inr ⟨HN.out, retTE_no 8 (by decide) bb3⟩
      · have HM := Lib.hid hm
        clear hm
        go_wp2_with fail
        refine (mmay_any _ t false _ stt2 (decide_eq_false HM.out).symm).mono ?_
        rintro e w3 ⟨rfl, b3⟩
        have bb3 := bb2.trans (b3.mono bb2.size)
        have HN : Hid (¬ besides t0.length ts) := fun h => HM.out (h t (List.mem_of_getElem? HT.out)).1
        clear HA ec0
        go_wp2
        go_ret2
        exact .inr ⟨HN.out, retTE_no 8 (by decide) bb3⟩
    · obtain rfl : k = ts.length := by omega
      have HB : Hid (besides t0.length ts) := fun t ht => by
        obtain ⟨i, hi⟩ := List.mem_iff_getElem?.1 ht
        exact HA.out i t (List.getElem?_eq_some_iff.1 hi).1 hi
      clear HA HS
      go_wp2_with fail
      refine (mbare_any _ t0.length _ rfl (by omega)).mono ?_
      rintro e w4 ⟨g, rfl, TB, hg, b4⟩
      have bb4 := bb.trans (b4.mono bb.size)
      have hgw : w.heap.size ≤ g := Nat.le_trans bb.size hg
      have hT0 : TabR w4 w.heap.size _ _ _ := TB.owned hgw (by omega)
      have HV0 : Hid (valq (List.replicate t0.length ([] : List Elt)) = besideT t0.length (ts.take 0)) := by show _ = _; rw [valq_nil]; rfl
      have HU0 : Hid ((List.replicate t0.length (Value.slice none 0 0)).length = t0.length) := by show _ = _; simp
      have HR0 : Hid (∀ r ∈ besideT t0.length (ts.take 0), r.length ≤ 200 * 0) := by
        show ∀ r ∈ _, _
        intro r hr
        rw [(List.mem_replicate.1 (show r ∈ List.replicate t0.length [] from hr)).2]
        exact Nat.le_refl _
      clear TB ec0 bb b4
      go_wp2
      go_loopw [9, 52] (fun v9 v52 wr => ∃ (k : Nat) (us : List Value) (pss : List (List Elt)), k ≤ ts.length ∧ TabR wr w.heap.size (.slice (some ⟨g, 0, none⟩) t0.length t0.length) us pss ∧ Hid (valq pss = besideT t0.length (ts.take k)) ∧ Hid (us.length = t0.length) ∧ Hid (∀ r ∈ besideT t0.length (ts.take k), r.length ≤ 200 * k) ∧ Below w.heap.size w wr ∧ v9 = .slice (some ⟨g, 0, none⟩) t0.length t0.length ∧ v52 = .int .i64 (k : Int)) (fun _ v52 _ => ts.length - (intOf v52).toNat)
      case atStart => exact ⟨0, _, _, by omega, hT0, HV0, HU0, HR0, bb4, rfl, rfl⟩
      case round =>
        clear hT0 HV0 HU0 HR0 bb4
        obtain ⟨k, us, pss, hk, hT, HV, HU, HR, bb, rfl, rfl⟩ := hrel
        by_cases hlt : k < ts.length
        · obtain ⟨t, ht⟩ : ∃ t, ts[k]? = some t := ⟨_, List.getElem?_eq_getElem hlt⟩
          have HT := Lib.hid ht
          obtain ⟨At, ct, hit, ewt, stt⟩ := st0.at2 ht
          have ect := (bb.cell (World.block_lt_of_cell? w _ ewt)).trans ewt
          have htm := List.mem_of_getElem? ht
          have HTB : Hid (mayq t ∧ t.length = t0.length) := HB.out t htm
          have HW : Hid (∀ r ∈ t, r.length ≤ 200) := fun r hr => by rw [HTB.out.1.2.2 r hr]; exact HTB.out.1.2.1
          have HLT : Hid (lenT t 100000) := HL.out.2.2.1 t htm
          have HV2 : Hid (joinq (valq pss) t = besideT t0.length (ts.take (k + 1))) := by show _ = _; rw [besideT_snoc ht, HV.out]
          have HR2 : Hid (∀ r ∈ besideT t0.length (ts.take (k + 1)), r.length ≤ 200 * (k + 1)) := by
            show ∀ r ∈ _, _
            intro r hr
            rw [besideT_snoc ht] at hr
            obtain ⟨p, hp, q, hq, rfl⟩ := mem_joinq hr
            have h1 := HR.out p hp
            have h2 := HW.out q hq
            rw [List.length_append]; omega
          clear ht htm ewt
          go_wp2_with fail
          refine (mjoined_any g t0.length t0.length _ us pss t w _ hT stt bb HU.out HTB.out.2 hgw ⟨fun r hr => by rw [HV.out] at hr; have := HR.out r hr; omega, fun r hr => Nat.le_trans (HW.out r hr) (by decide), HLT.out⟩).mono ?_
          rintro e w7 ⟨us7, pss7, rfl, T7, V7, L7, b7⟩
          have bb7 := bb.trans b7
          have HV7 : Hid (valq pss7 = besideT t0.length (ts.take (k + 1))) := by show _ = _; rw [V7, HV2.out]
          have HU7 := Lib.hid L7
          have hsk : ts.length - (k + 1) < ts.length - k := by omega
          clear hT HV HU HR stt ect V7 L7 b7
          go_wp2
          go_roundw
          case rel => exact ⟨k + 1, us7, pss7, by omega, T7, HV7, HU7, HR2, bb7, rfl, by go_num⟩
          case measure => simp [intOf]; omega
        · obtain rfl : k = ts.length := by omega
          have HV2 : Hid (valq pss = besideT t0.length ts) := by
            show _ = _
            rw [HV.out, List.take_of_length_le (Nat.le_refl _)]
          clear HV HR
          go_wp2
          go_ret2
          exact .inl ⟨HB.out, g, us, pss, rfl, hT, HV2.out, HU.out, hgw, bb⟩
set_option maxRecDepth 100000
def I64 (a : Int) : Prop := -9223372036854775808 ≤ a ∧ a ≤ 9223372036854775807
theorem I64.wf {a : Int} (h : I64 a) : (Lit.int .i64 a).wf = true := by
  simp only [Lit.wf, Bool.and_eq_true, decide_eq_true_eq]
  exact h
theorem blk_set1 {w : World} {g i : Nat} {t : TypeId} {cs : Array Value} (h : Blk w g t cs) (u : Value) : Blk (w.setCell ⟨g, i, none⟩ u) g t (cs.setIfInBounds i u) := by
  unfold Blk at h ⊢
  simp [World.setCell, Array.getElem?_modify, h]
theorem blk_set3 {w : World} {g : Nat} {t : TypeId} {a b c : Value} (h : Blk w g t #[a, b, c]) (x y z : Value) : Blk (((w.setCell ⟨g, 0, none⟩ x).setCell ⟨g, 1, none⟩ y).setCell ⟨g, 2, none⟩ z) g t #[x, y, z] := blk_set1 (blk_set1 (blk_set1 h x) y) z
/-- All fractions are of so many limbs at most. -/
def lenS (T : List (List Rat)) (m : Nat) : Prop := ∀ (i j : Nat) (q : Rat), cellq T i j = some q → lenQ q m
theorem lenS.mono {T : List (List Rat)} {m n : Nat} (h : lenS T m) (hn : m ≤ n) : lenS T n := fun i j q hq => (h i j q hq).mono hn
theorem below_grown {w w2 w3 : World} {row : Option Nat} (hg : w.grownBy w2 row) (hb : Below w2.heap.size w2 w3) : w.grownBy w3 row :=
  ⟨hb.os.trans hg.os, hb.tape.trans hg.tape, hb.output.trans hg.output, Nat.le_trans hg.size hb.size, fun k hk hne => (hb.block k (Nat.lt_of_lt_of_le hk hg.size)).trans (hg.block k hk hne)⟩
theorem below_none {w w2 : World} (hb : Below w.heap.size w w2) (row : Option Nat) : w.grownBy w2 row := ⟨hb.os, hb.tape, hb.output, hb.size, fun k hk _ => hb.block k hk⟩
theorem num_ordz0 {x : Rat} : (ordz x.num 0 == 0) = decide (x = 0) := by
  by_cases h : x = 0
  · rw [h, decide_eq_true rfl]; rfl
  · rw [decide_eq_false h, beq_eq_false_iff_ne]
    intro e
    have hz : x.num ≠ 0 := fun k => h (Rat.num_eq_zero.1 k)
    rcases Int.lt_or_gt_of_ne hz with k | k
    · rw [ordz_lt k] at e; cases e
    · rw [ordz_gt k] at e; cases e
section
variable {w : World} {ops : Array Oper} {o : Oper} {a : Act} {K : Act → World → Prop} {Q : Exit → Act → World → Prop} {E : Prop} {b R C i j : Nat} {T : List (List Rat)}
end
/-- A place, and what stands there. -/
abbrev Cel := Nat × Elt
def cells4 (x : Cel) : List Value := [.int .i64 (x.1 : Int), .bool (ngB x.2.1.num), x.2.2.1, x.2.2.2]
def flat4 (xs : List Cel) : List Value := xs.flatMap cells4
/-- The value is a slice of these cells. -/
def IsVC (w : World) (v : Value) (xs : List Cel) : Prop := ∃ A c, v = .slice A xs.length c ∧ xs.length ≤ c ∧ c ≤ maxLen ∧ ∀ i x, xs[i]? = some x → ∃ g o, A = some ⟨g, o, none⟩ ∧ w.cell? ⟨g, o + i * 4, none⟩ = some (.int .i64 (x.1 : Int)) ∧ w.cell? ⟨g, o + i * 4 + 1, none⟩ = some (.bool (ngB x.2.1.num)) ∧ w.cell? ⟨g, o + i * 4 + 2, none⟩ = some x.2.2.1 ∧ w.cell? ⟨g, o + i * 4 + 3, none⟩ = some x.2.2.2
theorem IsVC.below {w w' : World} {v : Value} {xs : List Cel} (h : IsVC w v xs) (hb : Below w.heap.size w w') : IsVC w' v xs := by
  obtain ⟨A, c, e, h1, h2, h3⟩ := h
  refine ⟨A, c, e, h1, h2, fun i x hx => ?_⟩
  obtain ⟨g, o, e2, c0, c1, c2, c3⟩ := h3 i x hx
  exact ⟨g, o, e2, (hb.cell (World.block_lt_of_cell? w _ c0)).trans c0, (hb.cell (World.block_lt_of_cell? w _ c1)).trans c1, (hb.cell (World.block_lt_of_cell? w _ c2)).trans c2, (hb.cell (World.block_lt_of_cell? w _ c3)).trans c3⟩
def celq (x : Cel) : Nat × Rat := (x.1, x.2.1)
/-- The value reads as these places and fractions. -/
def SlC (w : World) (v : Value) (l : List (Nat × Rat)) : Prop := ∃ xs : List Cel, xs.map celq = l ∧ IsVC w v xs ∧ ∀ x ∈ xs, IsE .u64 4294967296 w x.2
theorem SlC.below {w w' : World} {v : Value} {l : List (Nat × Rat)} (h : SlC w v l) (hb : Below w.heap.size w w') : SlC w' v l := by
  obtain ⟨xs, e, h1, h2⟩ := h
  exact ⟨xs, e, h1.below hb, fun x hx => (h2 x hx).below hb⟩
theorem SlC.shape {w : World} {v : Value} {l : List (Nat × Rat)} (h : SlC w v l) : ∃ A c, v = .slice A l.length c ∧ l.length ≤ c ∧ c ≤ maxLen := by
  obtain ⟨xs, rfl, ⟨A, c, e, h1, h2, _⟩, _⟩ := h
  rw [List.length_map]
  exact ⟨A, c, e, h1, h2⟩
/-- One of them. -/
theorem SlC.at_ {w : World} {A : Option Addr} {n c : Nat} {l : List (Nat × Rat)} {i : Nat} {y : Nat × Rat} (h : SlC w (.slice A n c) l) (hy : l[i]? = some y) : ∃ g o u t, A = some ⟨g, o, none⟩ ∧ i < n ∧ w.cell? ⟨g, o + i * 4, none⟩ = some (.int .i64 (y.1 : Int)) ∧ w.cell? ⟨g, o + i * 4 + 1, none⟩ = some (.bool (ngB y.2.num)) ∧ w.cell? ⟨g, o + i * 4 + 2, none⟩ = some u ∧ w.cell? ⟨g, o + i * 4 + 3, none⟩ = some t ∧ IsS w .u64 u (digs 4294967296 y.2.num.natAbs) ∧ IsS w .u64 t (digs 4294967296 y.2.den) := by
  obtain ⟨xs, rfl, ⟨A', c', e, h1, h2, h3⟩, h4⟩ := h
  injection e with e1 e2 e3
  subst e1; subst e2; subst e3
  rw [List.getElem?_map] at hy
  cases hx : xs[i]? with
  | none => rw [hx] at hy; cases hy
  | some x =>
    rw [hx] at hy
    obtain rfl : celq x = y := by simpa using hy
    obtain ⟨g, o, e4, c0, c1, c2, c3⟩ := h3 i x hx
    have h5 := h4 x (List.mem_of_getElem? hx)
    exact ⟨g, o, x.2.2.1, x.2.2.2, e4, (List.getElem?_eq_some_iff.1 hx).1, c0, c1, c2, c3, h5.1, h5.2⟩
/-- A row of the call's own. -/
def RowZ4 (w : World) (base : Nat) (v : Value) (xs : List Cel) : Prop := w.ownsRow base 138 4 v xs.length (flat4 xs)
theorem RowZ4.below {w w' : World} {base : Nat} {v : Value} {xs : List Cel} (h : RowZ4 w base v xs) (hb : Below w.heap.size w w') : RowZ4 w' base v xs :=
  World.ownsRow.kept (row := none) h ⟨hb.os, hb.tape, hb.output, hb.size, fun i hi _ => hb.block i hi⟩ (by cases hv : v.ownBlock <;> simp)
theorem RowZ4.under {w : World} {base : Nat} {v : Value} {xs : List Cel} (h : RowZ4 w base v xs) : ∀ g, v.ownBlock = some g → g < w.heap.size := fun g hg => (World.ownsRow.lt h g hg).2
theorem RowZ4.base_le {w : World} {base : Nat} {v : Value} {xs : List Cel} (h : RowZ4 w base v xs) : ∀ g, v.ownBlock = some g → base ≤ g := fun g hg => (World.ownsRow.lt h g hg).1
/-- The cells of one of a row's places, whatever stands there. -/
theorem RowN.places {w : World} {g n i : Nat} {qs : List Rat} (h : RowN w g n qs) (hi : i < n) : ∃ x y z, w.cell? ⟨g, 0 + i * 3, none⟩ = some x ∧ w.cell? ⟨g, 0 + i * 3 + 1, none⟩ = some y ∧ w.cell? ⟨g, 0 + i * 3 + 2, none⟩ = some z ∧ w.frozen? ⟨g, 0 + i * 3, none⟩ = false ∧ w.frozen? ⟨g, 0 + i * 3 + 1, none⟩ = false ∧ w.frozen? ⟨g, 0 + i * 3 + 2, none⟩ = false := by
  obtain ⟨ps, h1, h2, h3, h4, h5⟩ := h
  obtain ⟨f0, f1, f2⟩ := flat3_at ps i _ (List.getElem?_eq_getElem (by omega))
  rw [Nat.zero_add]
  exact ⟨_, _, _, by rw [h3.cell, List.getElem?_toArray]; exact f0, by rw [h3.cell, List.getElem?_toArray]; exact f1, by rw [h3.cell, List.getElem?_toArray]; exact f2, h3.frozen _, h3.frozen _, h3.frozen _⟩
theorem RowN.place {w : World} {g n i : Nat} {qs : List Rat} (h : RowN w g n qs) (hi : i < n) : ∃ x y z, w.cell? ⟨g, i * 3, none⟩ = some x ∧ w.cell? ⟨g, i * 3 + 1, none⟩ = some y ∧ w.cell? ⟨g, i * 3 + 2, none⟩ = some z ∧ w.frozen? ⟨g, i * 3, none⟩ = false ∧ w.frozen? ⟨g, i * 3 + 1, none⟩ = false ∧ w.frozen? ⟨g, i * 3 + 2, none⟩ = false := by
  have h1 := h.places hi
  rw [Nat.zero_add] at h1
  exact h1
theorem dotq_snoc : ∀ (p q : List Rat) (x y : Rat), p.length = q.length → dotq (p ++ [x]) (q ++ [y]) = dotq p q + x * y
  | [], [], x, y, _ => by simp [dotq, prods, sumq]
  | a :: p, b :: q, x, y, h => by
    have ih := dotq_snoc p q x y (by simpa using h)
    rw [List.cons_append, List.cons_append, dotq_cons, dotq_cons, ih, Rat.add_assoc]
  | [], b :: q, x, y, h => by simp at h
  | a :: p, [], x, y, h => by simp at h
theorem dotq_take {r v : List Rat} {k : Nat} {x y : Rat} (hx : r[k]? = some x) (hy : v[k]? = some y) : dotq (r.take (k + 1)) (v.take (k + 1)) = dotq (r.take k) (v.take k) + x * y := by
  rw [List.take_add_one, List.take_add_one, hx, hy]
  have h1 := (List.getElem?_eq_some_iff.1 hx).1
  have h2 := (List.getElem?_eq_some_iff.1 hy).1
  exact dotq_snoc _ _ _ _ (by rw [List.length_take, List.length_take]; omega)
end Go.Proofs.YtfnohdgnhdfpaaaGreat.rat
namespace Go.Proofs.YtfnohdgnhdfpaaaGreat.rat
open Go.RowKit Go.ChangeShapes Go.WideShapes Go.ChangeAt Go.Joins Go.Deep Go.Proofs.YtfnohdgnhdfpaaaGreat.num Go.Proofs.YtfnohdgnhdfpaaaGreat.mem Go.Proofs.YtfnohdgnhdfpaaaGreat.nat Go.Proofs.YtfnohdgnhdfpaaaGreat.txt Go.Proofs.YtfnohdgnhdfpaaaGreat.str Go.Proofs.YtfnohdgnhdfpaaaGreat.flow Go.Proofs.YtfnohdgnhdfpaaaGreat.whl
set_option linter.unusedVariables false
/-- A slice of slices of structs of a sign, limbs, and limbs, as it came in. -/
def ArgT (w : World) (v : Value) : Prop := ∃ A n c, v = .slice A n c ∧ n ≤ c ∧ c ≤ maxLen ∧ ∀ i, i < n → ∃ ad u, A = some ad ∧ w.cell? (ad.add i) = some u ∧ ArgQs w u
theorem ArgT.below {w w' : World} {v : Value} (h : ArgT w v) (hb : Below w.heap.size w w') : ArgT w' v := by
  obtain ⟨A, n, c, e, h1, h2, h3⟩ := h
  refine ⟨A, n, c, e, h1, h2, fun i hi => ?_⟩
  obtain ⟨ad, u, a1, e0, k⟩ := h3 i hi
  exact ⟨ad, u, a1, (hb.cell (World.block_lt_of_cell? w _ e0)).trans e0, ArgQs.below k hb⟩
theorem trod_qs {H : Type} {enc : TypeId × Value → H} {P : Program} {W : World} {fuel : Nat} {ts t e : TypeId} {f0 f1 g0 g1 : Field} {v : Value} {x : DataW H × List MemPlace} (ht : P.underlying ts = some (.slice t)) (hs : P.underlying t = some (.struct #[f0, f1])) (hC : P.cellsOf t = 3) (ho : (f0.offset == 0 && f1.offset == 2 && P.cellsOf f0.type == 2 && P.cellsOf f1.type == 1) = true)
    (hs2 : P.underlying f0.type = some (.struct #[g0, g1])) (hone : oneCellFields P #[g0, g1] = true) (hb : P.underlying g0.type = some .bool) (hsl : P.underlying g1.type = some (.slice e)) (hsl2 : P.underlying f1.type = some (.slice e)) (he : P.underlying e = some (.int .u64)) (ce : P.cellsOf e = 1)
    (hf : DataW.trod enc P W 0 (fun _ => true) true fuel ts [v] = some x) : ArgQs W v := by
  rcases Go.Deep.open_slice ht hf with ⟨hcs, hx⟩ | ⟨a, len', cap', m, n, D, Pl, hcs, _, hl, hm, hmm, hx, hrows⟩
  · injection hcs with hcs
    subst hcs
    exact ⟨none, 0, 0, rfl, by omega, by simp, fun i hi => by omega⟩
  · injection hcs with hcs
    subst hcs
    refine ⟨some a, len', cap', rfl, hl, hm, fun i hi => ?_⟩
    obtain ⟨cs', h1, h2⟩ := hrows i (by simp at hmm; omega)
    rw [hC] at h1
    obtain ⟨_, hlen, hcell⟩ := World.cells?_some h1
    match cs', hlen with
    | [c0, c1, c2], _ =>
      obtain ⟨b, l, m', e0, k1, k2, k3, k4⟩ := trod_q hs ho hs2 hone hb hsl hsl2 he ce h2
      subst e0
      have g0 := hcell 0 (by omega)
      have g1 := hcell 1 (by omega)
      have g2 := hcell 2 (by omega)
      rw [add_add] at g0 g1 g2
      exact ⟨a, b, c1, c2, l, m', rfl, by simpa using g0, by simpa using g1, by simpa using g2, k1, k2, k3, k4⟩
theorem arg_t {H : Type} {enc : TypeId × Value → H} {P : Program} {W : World} {base : Nat} {tt ts t e : TypeId} {f0 f1 g0 g1 : Field} {v : Value} {d : DataW H} {p : List MemPlace} (htt : P.underlying tt = some (.slice ts)) (hC1 : P.cellsOf ts = 1) (ht : P.underlying ts = some (.slice t)) (hs : P.underlying t = some (.struct #[f0, f1])) (hC : P.cellsOf t = 3) (ho : (f0.offset == 0 && f1.offset == 2 && P.cellsOf f0.type == 2 && P.cellsOf f1.type == 1) = true)
    (hs2 : P.underlying f0.type = some (.struct #[g0, g1])) (hone : oneCellFields P #[g0, g1] = true) (hb : P.underlying g0.type = some .bool) (hsl : P.underlying g1.type = some (.slice e)) (hsl2 : P.underlying f1.type = some (.slice e)) (he : P.underlying e = some (.int .u64)) (ce : P.cellsOf e = 1)
    (hv : Value.okWide P W .any base tt v) (h : DataW.Trod enc P W 0 (fun _ => true) true tt v d p) : ArgT W v := by
  obtain ⟨a0, len, cap, rfl⟩ := okWide_slice htt hv
  obtain ⟨fuel, hf⟩ := h
  rcases Go.Deep.open_slice htt hf with ⟨hcs, hx⟩ | ⟨a, len', cap', m, n, D, Pl, hcs, _, hl, hm, hmm, hx, hrows⟩
  · simp [Value.cells] at hcs
    obtain ⟨rfl, rfl, rfl⟩ := hcs
    exact ⟨none, 0, 0, rfl, by omega, by simp, fun i hi => by omega⟩
  · simp [Value.cells] at hcs
    obtain ⟨rfl, rfl, rfl⟩ := hcs
    refine ⟨some a, len, cap, rfl, hl, hm, fun i hi => ?_⟩
    obtain ⟨cs', h1, h2⟩ := hrows i (by simp at hmm; omega)
    rw [hC1] at h1
    obtain ⟨_, hlen, hcell⟩ := World.cells?_some h1
    match cs', hlen with
    | [c0], _ =>
      have g0 := hcell 0 (by omega)
      rw [add_add] at g0
      exact ⟨a, c0, rfl, by simpa using g0, trod_qs ht hs hC ho hs2 hone hb hsl hsl2 he ce h2⟩
end Go.Proofs.YtfnohdgnhdfpaaaGreat.rat
namespace Go.Proofs.YtfnohdgnhdfpaaaGreat.rat
open Go.RowKit Go.Proofs.YtfnohdgnhdfpaaaGreat.num Go.Proofs.YtfnohdgnhdfpaaaGreat.mem Go.Proofs.YtfnohdgnhdfpaaaGreat.nat Go.Proofs.YtfnohdgnhdfpaaaGreat.txt Go.Proofs.YtfnohdgnhdfpaaaGreat.str Go.Proofs.YtfnohdgnhdfpaaaGreat.flow Go.Proofs.YtfnohdgnhdfpaaaGreat.whl
set_option linter.unusedVariables false
section
variable {P : Program}
/-- 'all = append(all, x)', all a row of slices of the call's own. -/
theorem wpList_append_w {w : World} {ops : Array Oper} {rest : List Oper} {o : Oper} {a : Act} {Q : Exit → Act → World → Prop} (hgd : o.guard = none) (s x : Operand) {t : TypeId}
    (ho : o.op = .call { callee := .builtin .append, args := #[s, x], argTypes := #[t, t] })
    {base : Nat} {T : TypeId} (hT : P.underlying t = some (.slice T)) (hI : ∃ i, P.info? T = some i ∧ i.zero = some (.slice none 0 0) ∧ i.size = 1 ∧ i.bytes = 24) {v u : Value} {vs : List Value} (hs : a.eval s = v) (hown : RowV w base T v vs) (hx : a.eval x = .slice (some ⟨w.heap.size, 0, none⟩) 1 1) (hu : u.oneCell' = true)
    (hlen : vs.length ≤ 1000000000) (hbase : base ≤ w.heap.size)
    (h : ∀ v' w', RowV w' base T v' (vs ++ [u]) → Below base w w' → Hid (Grew w w' v v') → wpList P ops Q rest (a.put o.dst v') w') : wpList P ops Q (o :: rest) a (w.alloc (.cells #[u] T)) := by
  obtain ⟨i, hi, hz, hsz, hby⟩ := hI
  refine wpList_append_lies (w.alloc (.cells #[u] T)) hgd s x t ho base T i (.slice none 0 0) 1 24 hT hi hz hsz hby rfl (by omega) v vs.length vs hs (World.ownsRow.alloc hown _) ⟨w.heap.size, 0, none⟩ 1 1 [u] hx rfl ?_ ?_ (by omega) (by unfold maxLen; omega) (by omega) (by simp; omega) _ rfl ?_
  · exact World.news_of_block (heap_alloc_new w _)
  · intro u' hu'
    obtain rfl := List.mem_singleton.1 hu'
    exact hu
  · intro g cap w' g1 g2 g3 g4
    have h5 : w.grownBy w' v.ownBlock := grown_trans (World.grownBy_alloc w _ _) g2
    refine h _ w' (by unfold RowV; rw [List.length_append]; exact g1) ((Below.refl base w).grown h5 hbase hown.base_le) ?_
    refine ⟨?_, h5, fun k hk hne e1 => ?_⟩
    · intro k q l hq hf
      refine ⟨hq.farKept hf h5, ?_⟩
      rintro ad n c rfl hn
      rcases g3 with h3 | h3
      · have := hf ad n c rfl hn
        rw [h3] at this
        exact this
      · subst h3
        intro e1
        have e2 : ad.block = (w.alloc (.cells #[u] T)).heap.size := by simpa [Value.ownBlock] using e1
        obtain ⟨A, c', e3, k1, k2, k3⟩ := hq
        injection e3 with e3 e4 e5
        subst e3; subst e4
        obtain ⟨ad', he, hc⟩ := k3 0 _ (List.getElem?_eq_getElem hn)
        injection he with he; subst he
        have h6 := World.block_lt_of_cell? w _ hc
        rw [Go.ChangeShapes.block_add] at h6
        simp at e2
        omega
    · have e2 : g = k := by simpa [Value.ownBlock] using e1
      subst e2
      rcases g3 with h3 | h3
      · exact hne h3
      · simp at h3; omega
end
/-- Two rows of the call's own, of the same fractions, limbs in new memory. -/
def RetFewW (n : Nat) (w : World) (e : Ending) (w' : World) : Prop := ∃ V U ps rs, e = .returned (.tuple #[V, U]) ∧ TwoRows w w' V U ps rs ∧ NewL w.heap.size ps ∧ NewL w.heap.size rs ∧ rs.map (·.1) = ps.map (·.1) ∧ ps.length = n ∧ (∀ p ∈ ps, lenQ p.1 1)
set_option maxHeartbeats 6400000 in
set_option maxRecDepth 100000 in
theorem few11_two (A0 : Option Addr) (n0 c0 M : Nat) (w : World) (h0 : ArgQs w (.slice A0 n0 c0)) (hM : M ≤ 8) :
    Calls Tryz.prog 47 #[.slice A0 n0 c0, .int .i64 (M : Int)] w (RetFewW (min n0 M) w) := by
  obtain ⟨A0_, n0_, c0_, e_, hn0, hc0, hel⟩ := h0
  injection e_ with e1_ e2_ e3_
  subst e1_
  subst e2_
  subst e3_
  have HEL := Lib.hid hel
  clear hel
  unfold maxLen at hc0
  have bb : Below w.heap.size w w := Below.refl _ _
  go_enter Tryz.func47, Tryz.ntmps47
  go_wp2
  go_loopw [6, 7, 8] (fun v4 v5 v6 wr => ∃ (k : Nat) (ps rs : List Elt), k ≤ M ∧ k ≤ n0 ∧ Hid (ps.length = k) ∧ Hid (rs.map (·.1) = ps.map (·.1)) ∧ Hid (∀ p ∈ ps, lenQ p.1 1) ∧ TwoRows w wr v4 v5 ps rs ∧ NewL w.heap.size ps ∧ NewL w.heap.size rs ∧ v6 = .int .i64 (k : Int)) (fun _ _ v6 _ => M - (intOf v6).toNat)
  case atStart =>
    have r0 := rowF_lit0 44 w w.heap.size (Nat.le_refl _)
    have r1 := rowF_lit0 55 (w.alloc (.cells #[] 44)) w.heap.size (by simp)
    have r0' := r0.below (below_alloc (Nat.le_refl _) (.cells #[] 55))
    refine ⟨0, [], [], by omega, by omega, rfl, rfl, (by show ∀ p ∈ _, _; intro p hp; cases hp), ⟨r0', ?_, ⟨FarF.nil _ _ _ _, FarF.nil _ _ _ _⟩, ⟨FarF.nil _ _ _ _, FarF.nil _ _ _ _⟩, ?_, (below_alloc (Nat.le_refl _) _).alloc (by simp) _⟩, NewL.nil _, NewL.nil _, rfl⟩
    · simpa using r1
    · intro g h1 h2
      simp [Value.ownBlock] at h1 h2
      omega
  case round =>
    obtain ⟨k, ps, rs, hk8, hkn, HPL, HRP, HLQ, hTR, hNP, hNR, rfl⟩ := hrel
    obtain ⟨u4, hu4⟩ : ∃ u4, u4 = u6 := ⟨_, rfl⟩
    obtain ⟨u5, hu5⟩ : ∃ u5, u5 = u7 := ⟨_, rfl⟩
    subst hu4
    subst hu5
    have bb' := hTR.2.2.2.2.2
    clear bb
    have bb := bb'
    clear bb'
    by_cases hlt : k < n0 ∧ k < M
    · obtain ⟨hlt1, hlt2⟩ := hlt
      obtain ⟨ad, b, ue, te, l, m, hA0, e0, e1, e2, hu, lu, ht, lt⟩ := HEL.out k hlt1
      subst hA0
      obtain ⟨Ae, ce, rfl, _⟩ := id hu
      obtain ⟨De, ee, rfl, _⟩ := id ht
      replace e0 := (bb.cell (World.block_lt_of_cell? w _ e0)).trans e0
      replace e1 := (bb.cell (World.block_lt_of_cell? w _ e1)).trans e1
      replace e2 := (bb.cell (World.block_lt_of_cell? w _ e2)).trans e2
      replace hu := hu.below bb
      replace ht := ht.below bb
      obtain ⟨q, hq⟩ : ∃ q, q = cleanQ b l m 1 := ⟨_, rfl⟩
      have lq : lenQ q 1 := by rw [hq]; exact cleanQ_len _ _ _ (by omega)
      have HQ := Lib.hid hq.symm
      clear hq
      have bl : Below wr.heap.size wr wr := Below.refl _ _
      have hszr := bb.size
      go_upto_region 5 with (fail)
      refine flowp 6 [Pd.eq (.slice (some ad) n0 c0), Pd.eq (.int .i64 (k : Int)), Pd.eq (.pointer (some (ad.add (k * 3)))), Pd.eq (.agg #[.bool b, .slice Ae l.length ce, .slice De m.length ee]), pq (q) wr.heap.size, pn 44 #[.bool false, .slice none 0 0, .slice none 0 0] wr.heap.size] (by kernel_rfl) ?ob1 ?done1
      case ob1 =>
        refine And.intro (ob_move rfl (wt_none rfl) (ev_far rfl rfl) (fun _ _ h => h)) ?_
        refine And.intro (ob_move rfl (wt_none rfl) (ev_far rfl rfl) (fun _ _ h => h)) ?_
        refine And.intro (ob_indexAddr rfl (wt_none rfl) (ev_dep (j := 0) (by kernel_rfl) rfl rfl) (ev_dep (j := 1) (by kernel_rfl) rfl rfl) (fun _ _ _ hx hy => ⟨_, by rw [hx, hy]; exact index3_any Tryz.underlying64 (by kernel_rfl) ad hlt1 _, rfl⟩)) ?_
        refine And.intro (ob_load rfl (wt_none rfl) (ev_dep (j := 2) (by kernel_rfl) rfl rfl) (fun w2 hb => load3_any Tryz.underlying44 rfl (by kernel_rfl) ((hb.cell (World.block_lt_of_cell? wr _ e0)).trans e0) ((hb.cell (World.block_lt_of_cell? wr _ e1)).trans e1) ((hb.cell (World.block_lt_of_cell? wr _ e2)).trans e2)) (fun _ _ => rfl)) ?_
        refine And.intro (ob_call2 rfl Tryz.func39 (by kernel_rfl) (wt_none rfl) (ev_dep (j := 3) (by kernel_rfl) rfl rfl) (ev_const _) (fun w2 u0 u1 hb h0 h1 => by obtain rfl := h0; obtain rfl := h1; exact (HQ.out ▸ qclean_any b _ _ l m 1 1 _ rfl (hu.below hb) lu (ht.below hb) lt (by omega) (by omega)).mono fun e w3 h => RetQ.pd h hb.size)) ?_
        refine And.intro (ob_alloc (z := .agg #[.bool false, .slice none 0 0, .slice none 0 0]) rfl rfl (fun _ => by kernel_rfl) (fun _ _ hB h => ⟨_, rfl, hB, h⟩)) ?_
        trivial
      case done1 =>
        refine fun w2 hb2 v0 h0 v1 h1 v2 h2 v3 h3 v4 h4 v5 h5 d5 b hbf => ?_
        obtain rfl := h0; obtain rfl := h1; obtain rfl := h2; obtain rfl := h3
        obtain ⟨q4, f4⟩ := h4
        obtain ⟨g1_5, rfl, hg5, B5⟩ := h5
        simp only [Act.put, List.setIfInBounds_toArray, List.set_cons_zero, List.set_cons_succ] at hbf
        subst hbf
        replace bb := bb.trans (hb2.mono bb.size)
        have hsz2 := bb.size
        replace bl := bl.trans (hb2.mono bl.size)
        have BA9 := B5
        obtain ⟨u4, t4, rfl, q4, d4⟩ := q4
        obtain ⟨A7, c7, rfl, _⟩ := id q4
        obtain ⟨D7, e7, rfl, _⟩ := id d4
        refine ops_store (i := 6) rfl rfl rfl rfl rfl rfl (cells := [.bool (ngB (q).num), .slice A7 (digs 4294967296 (q).num.natAbs).length c7, .slice D7 (digs 4294967296 (q).den).length e7]) rfl BA9 rfl (by kernel_rfl) (one3 rfl rfl rfl) fun w3 hg3 BN3 => ?_
        replace q4 := off q4 BA9 no_ints3 hg3
        replace d4 := off d4 BA9 no_ints3 hg3
        replace bb := bb.trans ((Below.refl _ _).grown hg3 bb.size (fun g hg => by injection hg with hg; omega))
        have hsz3 := bb.size
        have B7 : Blk w3 (g1_5) _ _ := BN3
        have k7s := q4
        have k7d := d4
        have k7z : IsZ w3 (.agg #[.bool (ngB (q).num), .slice A7 (digs 4294967296 (q).num.natAbs).length c7]) ((q).num) := ⟨_, rfl, k7s⟩
        have k7 : IsQ w3 (.agg #[.bool (ngB (q).num), .slice A7 (digs 4294967296 (q).num.natAbs).length c7, .slice D7 (digs 4294967296 (q).den).length e7]) (q) := ⟨_, _, rfl, k7s, k7d⟩
        have hq_ := bl.size
        replace bl := bl.trans ((Below.refl _ _).grown hg3 bl.size (fun g hg => by injection hg with hg; omega))
        clear hq_
        refine ops_done ?_
        have g1 := (f4 _ _ _ rfl).1
        have g2 := (f4 _ _ _ rfl).2
        have under4 := hTR.1.under
        have under5 := hTR.2.1.under
        have far4 : Far u4 (.slice A7 (digs 4294967296 (q).num.natAbs).length c7) ∧ Far u4 (.slice D7 (digs 4294967296 (q).den).length e7) := ⟨g1.far under4, g2.far under4⟩
        have far5 : Far u5 (.slice A7 (digs 4294967296 (q).num.natAbs).length c7) ∧ Far u5 (.slice D7 (digs 4294967296 (q).den).length e7) := ⟨g1.far under5, g2.far under5⟩
        have hT2 := hTR.below bl
        have HT2 := Lib.hid hT2
        have hr4 : RowF 44 w3 w.heap.size u4 ps := hT2.1
        have hszT : w.heap.size ≤ w3.heap.size := hT2.2.2.2.2.2.size
        have hne4 : u4.ownBlock ≠ some g1_5 := fun e => by have := under4 _ e; omega
        obtain ⟨x70, x71, x72, _, _, _⟩ := three B7
        obtain ⟨P1, hP1⟩ : ∃ P1 : Elt, P1 = (q, .slice A7 (digs 4294967296 (q).num.natAbs).length c7, .slice D7 (digs 4294967296 (q).den).length e7) := ⟨_, rfl⟩
        have HP1 := Lib.hid hP1
        have k7d_ : IsE .u64 4294967296 w3 (q, .slice A7 (digs 4294967296 (q).num.natAbs).length c7, .slice D7 (digs 4294967296 (q).den).length e7) := ⟨k7s, k7d⟩
        have lq3 : lenQ q 30000 := ⟨Nat.le_trans lq.1 (by decide), Nat.le_trans lq.2 (by decide)⟩
        have HL8 : Hid (ps.length ≤ 1000000000 ∧ rs.length ≤ 1000000000) := by
          have h1 := HPL.out
          have h2 := congrArg List.length HRP.out
          rw [List.length_map, List.length_map] at h2
          exact ⟨by omega, by omega⟩
        clear hT2 hTR e0 e1 e2 hu ht lu lt hP1
        obtain ⟨cA0, cA1, cA2⟩ := new_cells w3 44 (.bool (ngB (q).num)) (.slice A7 (digs 4294967296 (q).num.natAbs).length c7) (.slice D7 (digs 4294967296 (q).den).length e7)
        have bA := below_alloc (w := w3) (Nat.le_refl _) (.cells #[.bool (ngB (q).num), .slice A7 (digs 4294967296 (q).num.natAbs).length c7, .slice D7 (digs 4294967296 (q).den).length e7] 44)
        obtain ⟨wA, hwA⟩ : ∃ wA, wA = w3.alloc (.cells #[.bool (ngB (q).num), .slice A7 (digs 4294967296 (q).num.natAbs).length c7, .slice D7 (digs 4294967296 (q).den).length e7] 44) := ⟨_, rfl⟩
        have HWA := Lib.hid hwA
        rw [← hwA] at cA0 cA1 cA2 bA
        replace bA := bA.drew
        have rA := hr4.below bA
        have eA := k7d_.below bA
        have tA := HT2.out.below bA
        have BA_ := B7.below bA
        have hszA : w.heap.size ≤ wA.drew.heap.size := tA.2.2.2.2.2.size
        have TA := Lib.hid tA
        clear tA
        subst hwA
        obtain ⟨xA0, xA1, xA2, _, _, _⟩ := three BA_
        go_upto_region 6 with (fail)
        go_region_law (first
          | (refine step_append_q rfl (.tmp 28) (.tmp 30) rfl Tryz.underlying64 info_rat (v := u4) (p := (q, .slice A7 (digs 4294967296 (q).num.natAbs).length c7, .slice D7 (digs 4294967296 (q).den).length e7)) (ps := ps) (by rfl) (by exact rA) (ad := ⟨w3.heap.size, 0, none⟩) (c := 1) (by rfl) (by exact cA0) (by exact cA1) (by exact cA2) rfl rfl HL8.out.1 (by exact hszA) ?_; intro v5 w5 row5 bb5 HK5; have T5 := Lib.hid (TA.out.one row5 HK5.out bb5 eA far4 far5); have s5 := (HK5.out.1 _ _ _ eA.1 far4.1).1; have d5 := (HK5.out.1 _ _ _ eA.2 far4.2).1; have B5_ := BA_.other HK5.out.2.1 hne4; obtain ⟨x50, x51, x52, _, _, _⟩ := three B5_)
          | (go_simp; go_at_call 42; refine (qoff_any _ q _ ⟨_, _, rfl, (by exact s5), (by exact d5)⟩ lq3).mono ?_; rintro e w6 ⟨v6, rfl, k6, f6, b6⟩; have T6 := Lib.hid (T5.out.below b6); have row6 := T6.out.2.1; obtain ⟨u6, t6, rfl, q6, d6⟩ := k6; obtain ⟨A6, c6, rfl, _⟩ := id q6; obtain ⟨D6, e6, rfl, _⟩ := id d6; have hsz6 : w.heap.size ≤ w6.heap.size := T6.out.2.2.2.2.2.size; obtain ⟨cC0, cC1, cC2⟩ := new_cells w6 55 (.bool (ngB (q).num)) (.slice A6 (digs 10000 (q).num.natAbs).length c6) (.slice D6 (digs 10000 (q).den).length e6); have rC := row6.below (below_alloc (Nat.le_refl _) (.cells #[.bool (ngB (q).num), .slice A6 (digs 10000 (q).num.natAbs).length c6, .slice D6 (digs 10000 (q).den).length e6] 55)); have hszC := Nat.le_trans hsz6 (below_alloc (w := w6) (Nat.le_refl _) (.cells #[.bool (ngB (q).num), .slice A6 (digs 10000 (q).num.natAbs).length c6, .slice D6 (digs 10000 (q).den).length e6] 55)).size)
          | (refine step_append_q rfl (.tmp 32) (.tmp 35) rfl Tryz.underlying87 info_q (v := u5) (p := (q, .slice A6 (digs 10000 (q).num.natAbs).length c6, .slice D6 (digs 10000 (q).den).length e6)) (ps := rs) (by rfl) (by exact rC) (ad := ⟨w6.heap.size, 0, none⟩) (c := 1) (by rfl) (by exact cC0) (by exact cC1) (by exact cC2) rfl rfl HL8.out.2 (by exact hszC) ?_; intro v7 w7 row7 bb7 HK7))
        all_goals
          have ba6 := below_alloc (w := w6) (Nat.le_refl _) (.cells #[.bool (ngB (q).num), .slice A6 (digs 10000 (q).num.natAbs).length c6, .slice D6 (digs 10000 (q).den).length e6] 55)
          have TC := T6.out.below ba6
          have EC : IsE .i64 10000 (w6.alloc (.cells #[.bool (ngB (q).num), .slice A6 (digs 10000 (q).num.natAbs).length c6, .slice D6 (digs 10000 (q).den).length e6] 55)) (q, .slice A6 (digs 10000 (q).num.natAbs).length c6, .slice D6 (digs 10000 (q).den).length e6) := ⟨q6.below ba6, d6.below ba6⟩
          have j1 := (f6 _ _ _ rfl).1
          have j2 := (f6 _ _ _ rfl).2
          have n4 := T5.out.1.under
          have n5 := T5.out.2.1.under
          have T7 := TC.two row7 HK7.out bb7 EC ⟨j1.far n4, j2.far n4⟩ ⟨j1.far n5, j2.far n5⟩
          have NP7 := hNP.snoc (p := (q, .slice A7 (digs 4294967296 (q).num.natAbs).length c7, .slice D7 (digs 4294967296 (q).den).length e7)) (g1.mono hszr) (g2.mono hszr)
          have hs5 : w.heap.size ≤ w5.heap.size := T5.out.2.2.2.2.2.size
          have NR7 := hNR.snoc (p := (q, .slice A6 (digs 10000 (q).num.natAbs).length c6, .slice D6 (digs 10000 (q).den).length e6)) (j1.mono hs5) (j2.mono hs5)
          have HPL7 : Hid ((ps ++ [((q, .slice A7 (digs 4294967296 (q).num.natAbs).length c7, .slice D7 (digs 4294967296 (q).den).length e7) : Elt)]).length = k + 1) := by show _ = _; rw [List.length_append, HPL.out]; rfl
          have HRP7 : Hid ((rs ++ [((q, .slice A6 (digs 10000 (q).num.natAbs).length c6, .slice D6 (digs 10000 (q).den).length e6) : Elt)]).map (·.1) = (ps ++ [((q, .slice A7 (digs 4294967296 (q).num.natAbs).length c7, .slice D7 (digs 4294967296 (q).den).length e7) : Elt)]).map (·.1)) := by show _ = _; rw [List.map_append, List.map_append, HRP.out]; rfl
          have HLQ7 : Hid (∀ p ∈ ps ++ [((q, .slice A7 (digs 4294967296 (q).num.natAbs).length c7, .slice D7 (digs 4294967296 (q).den).length e7) : Elt)], lenQ p.1 1) := fun p hp => by
            rcases List.mem_append.1 hp with hp | hp
            · exact HLQ.out p hp
            · rw [List.mem_singleton.1 hp]; exact lq
          have hme : M - (k + 1) < M - k := by omega
          go_wp2
          go_roundw
          case rel => exact ⟨k + 1, _, _, by omega, by omega, HPL7, HRP7, HLQ7, T7, NP7, NR7, rfl⟩
          case measure => exact hme
    · have HEND : Hid (TwoRows w wr u4 u5 ps rs ∧ NewL w.heap.size ps ∧ NewL w.heap.size rs ∧ rs.map (·.1) = ps.map (·.1) ∧ ps.length = min n0 M ∧ (∀ p ∈ ps, lenQ p.1 1)) := ⟨hTR, hNP, hNR, HRP.out, by rw [HPL.out]; omega, HLQ.out⟩
      clear hTR HRP HLQ HPL hNP hNR
      have hx : ¬ k < n0 ∨ (k < n0 ∧ ¬ k < M) := by omega
      rcases hx with hx | ⟨hx1, hx2⟩
      all_goals
        go_wp2
        go_ret2
        exact ⟨_, _, ps, rs, rfl, HEND.out.1, HEND.out.2.1, HEND.out.2.2.1, HEND.out.2.2.2.1, HEND.out.2.2.2.2.1, HEND.out.2.2.2.2.2⟩
theorem RowF.weak {T : TypeId} {w : World} {base base' : Nat} {v : Value} {ps : List Elt} (h : RowF T w base v ps) (hb : base' ≤ base) : RowF T w base' v ps := by
  refine ⟨h.1, ?_⟩
  rcases h.2 with h2 | ⟨g, cap, cur, e, h1, h2⟩
  · exact .inl h2
  · exact .inr ⟨g, cap, cur, e, Nat.le_trans hb h1, h2⟩
theorem flat3_take : ∀ (ps : List Elt) (m : Nat), flat3 (ps.take m) = (flat3 ps).take (m * 3)
  | [], m => by simp [flat3]
  | p :: ps, 0 => by simp [flat3]
  | p :: ps, m + 1 => by
    rw [List.take_succ_cons, flat3_cons, flat3_cons, flat3_take ps m, show (m + 1) * 3 = m * 3 + 3 from by omega, List.take_append, cells3_len, List.take_of_length_le (l := cells3 p) (by rw [cells3_len]; omega), Nat.add_sub_cancel]
/-- A row's front is a row of the call's own. -/
theorem RowF.take {T : TypeId} {w : World} {base n c m : Nat} {A : Option Addr} {ps : List Elt} (h : RowF T w base (.slice A n c) ps) (hm : m ≤ ps.length) : RowF T w base (.slice A m c) (ps.take m) := by
  have hl : (ps.take m).length = m := by rw [List.length_take]; omega
  unfold RowF
  rw [hl]
  refine ⟨by rw [flat3_len, hl], ?_⟩
  rcases h.2 with ⟨e, h0⟩ | ⟨g, cap, cur, e, h1, h2, h3, h4, h5, h6⟩
  · injection e with e1 e2 e3
    subst e1; subst e3
    have : m = 0 := by omega
    subst this
    exact .inl ⟨rfl, rfl⟩
  · injection e with e1 e2 e3
    subst e1; subst e3
    refine .inr ⟨g, c, cur, rfl, h1, h2, by omega, h4, h5, ?_⟩
    rw [flat3_take, ← h6, List.take_take, Nat.min_eq_left (by omega)]
/-- A table whose rows the call owns, each in a block of its own, whatever its elements' limbs are. -/
structure TabK (T : TypeId) (w : World) (base : Nat) (TS : TypeId) (V : Value) (us : List Value) (pss : List (List Elt)) : Prop where
  row : RowV w base TS V us
  len : us.length = pss.length
  own : ∀ (i : Nat) (u : Value) (ps : List Elt), us[i]? = some u → pss[i]? = some ps → RowF T w base u ps
  apart : ∀ (i j : Nat) (u v : Value), i ≠ j → us[i]? = some u → us[j]? = some v → ∀ h, u.ownBlock = some h → v.ownBlock ≠ some h
theorem TabO.k {k : IntKind} {B : Nat} {T : TypeId} {w : World} {base : Nat} {TS : TypeId} {V : Value} {us : List Value} {pss : List (List Elt)} (h : TabO k B T w base TS V us pss) : TabK T w base TS V us pss := ⟨h.row, h.len, h.own, h.apart⟩
theorem TabK.mem {T : TypeId} {w : World} {base : Nat} {TS : TypeId} {V : Value} {us : List Value} {pss : List (List Elt)} (h : TabK T w base TS V us pss) {u : Value} (hu : u ∈ us) : ∃ ps, RowF T w base u ps := by
  obtain ⟨i, hi⟩ := List.mem_iff_getElem?.1 hu
  have hp : pss[i]? = some (pss[i]'(by rw [← h.len]; exact (List.getElem?_eq_some_iff.1 hi).1)) := List.getElem?_eq_getElem _
  exact ⟨_, h.own i u _ hi hp⟩
theorem RowV.kept {w w' : World} {base : Nat} {TS : TypeId} {V : Value} {us : List Value} {row : Option Nat} (h : RowV w base TS V us) (hg : w.grownBy w' row) (hV : ∀ g, V.ownBlock = some g → row ≠ some g) : RowV w' base TS V us :=
  World.ownsRow.kept (row := row) h hg (by
    cases hv : V.ownBlock with
    | none => exact .inl rfl
    | some g => exact .inr fun e => hV g hv e.symm)
theorem TabK.kept {T : TypeId} {w w' : World} {base : Nat} {TS : TypeId} {V : Value} {us : List Value} {pss : List (List Elt)} {row : Option Nat} (h : TabK T w base TS V us pss) (hg : w.grownBy w' row) (hV : ∀ g, V.ownBlock = some g → row ≠ some g) (hu : ∀ u ∈ us, ∀ g, u.ownBlock = some g → row ≠ some g) : TabK T w' base TS V us pss :=
  ⟨RowV.kept h.row hg hV, h.len, fun i u ps hi hp => (h.own i u ps hi hp).other hg (fun g e => hu u (List.mem_of_getElem? hi) g e), h.apart⟩
theorem TabK.below {T : TypeId} {w w' : World} {base : Nat} {TS : TypeId} {V : Value} {us : List Value} {pss : List (List Elt)} (h : TabK T w base TS V us pss) (hb : Below w.heap.size w w') : TabK T w' base TS V us pss :=
  ⟨h.row.below hb, h.len, fun i u ps hi hp => (h.own i u ps hi hp).below hb, h.apart⟩
theorem TabO.kept {k : IntKind} {B : Nat} {T : TypeId} {w w' : World} {base : Nat} {TS : TypeId} {V : Value} {us : List Value} {pss : List (List Elt)} {row : Option Nat} (h : TabO k B T w base TS V us pss) (hg : w.grownBy w' row) (hV : ∀ g, V.ownBlock = some g → row ≠ some g) (hu : ∀ u ∈ us, ∀ g, u.ownBlock = some g → row ≠ some g)
    (hf : ∀ ps ∈ pss, ∀ p ∈ ps, (∀ ad n c, p.2.1 = .slice (some ad) n c → 0 < n → some ad.block ≠ row) ∧ (∀ ad n c, p.2.2 = .slice (some ad) n c → 0 < n → some ad.block ≠ row)) : TabO k B T w' base TS V us pss := by
  have hk := h.k.kept hg hV hu
  refine ⟨hk.row, hk.len, hk.own, fun u hu' ps hp p hpp => ?_, fun ps hp p hpp => ?_, hk.apart⟩
  · obtain ⟨e1, f1⟩ := h.far u hu' ps hp p hpp
    exact ⟨⟨e1.1.farKept (hf ps hp p hpp).1 hg, e1.2.farKept (hf ps hp p hpp).2 hg⟩, f1⟩
  · obtain ⟨e1, f1⟩ := h.farV ps hp p hpp
    exact ⟨⟨e1.1.farKept (hf ps hp p hpp).1 hg, e1.2.farKept (hf ps hp p hpp).2 hg⟩, f1⟩
/-- A row of the call's own is put behind the others. -/
theorem TabO.snoc {k : IntKind} {B : Nat} {T : TypeId} {w w' : World} {base : Nat} {TS : TypeId} {V V' u : Value} {us : List Value} {pss : List (List Elt)} {ps : List Elt} (hT : T ≠ TS) (h : TabO k B T w base TS V us pss) (hrow : RowV w' base TS V' (us ++ [u])) (hg : Grew w w' V V') (hu : RowF T w base u ps)
    (hap : ∀ v ∈ us, ∀ g, v.ownBlock = some g → u.ownBlock ≠ some g) (hf1 : FarF k B w u ps) (hf2 : ∀ v ∈ us, ∀ p ∈ ps, Far v p.2.1 ∧ Far v p.2.2) (hf3 : ∀ p ∈ ps, Far V p.2.1 ∧ Far V p.2.2) (hf4 : ∀ qs ∈ pss, ∀ p ∈ qs, Far u p.2.1 ∧ Far u p.2.2) : TabO k B T w' base TS V' (us ++ [u]) (pss ++ [ps]) := by
  obtain ⟨k1, k2, k3⟩ := hg
  have hlen := h.len
  have own' : ∀ {v : Value} {qs : List Elt}, RowF T w base v qs → RowF T w' base v qs := fun r => r.other k2 fun g e e2 => r.notRow h.row hT g e e2
  have at_ : ∀ {i : Nat} {v : Value}, (us ++ [u])[i]? = some v → (us[i]? = some v ∧ i < us.length) ∨ (i = us.length ∧ v = u) := by
    intro i v hi
    by_cases hl : i < us.length
    · rw [List.getElem?_append_left hl] at hi
      exact .inl ⟨hi, hl⟩
    · rw [List.getElem?_append_right (by omega)] at hi
      rcases hj : i - us.length with _ | j
      · rw [hj] at hi
        refine .inr ⟨by omega, ?_⟩
        simpa using hi.symm
      · rw [hj] at hi; simp at hi
  have all : ∀ qs ∈ pss ++ [ps], ∀ p ∈ qs, (IsE k B w' p ∧ Far V' p.2.1 ∧ Far V' p.2.2) ∧ (∀ v ∈ us, Far v p.2.1 ∧ Far v p.2.2) ∧ Far u p.2.1 ∧ Far u p.2.2 := by
    intro qs hqs p hp
    have main : IsE k B w p → Far V p.2.1 → Far V p.2.2 → IsE k B w' p ∧ Far V' p.2.1 ∧ Far V' p.2.2 := fun a b c => by
      have x1 := k1 _ _ _ a.1 b
      have x2 := k1 _ _ _ a.2 c
      exact ⟨⟨x1.1, x2.1⟩, x1.2, x2.2⟩
    rcases List.mem_append.1 hqs with hqs | hqs
    · obtain ⟨e1, f1, f2⟩ := h.farV qs hqs p hp
      exact ⟨main e1 f1 f2, fun v hv => (h.far v hv qs hqs p hp).2, hf4 qs hqs p hp⟩
    · rw [List.mem_singleton.1 hqs] at hp
      obtain ⟨e1, f1, f2⟩ := hf1 p hp
      exact ⟨main e1 (hf3 p hp).1 (hf3 p hp).2, fun v hv => hf2 v hv p hp, f1, f2⟩
  refine ⟨hrow, by rw [List.length_append, List.length_append, hlen]; rfl, fun i v qs hv hq => ?_, fun v hv qs hqs p hp => ?_, fun qs hqs p hp => (all qs hqs p hp).1, fun i j a b hij ha hb g hga hgb => ?_⟩
  · rcases at_ hv with ⟨hv, hl⟩ | ⟨rfl, rfl⟩
    · rw [List.getElem?_append_left (by omega)] at hq
      exact own' (h.own i v qs hv hq)
    · rw [List.getElem?_append_right (by omega), hlen, Nat.sub_self] at hq
      obtain rfl : ps = qs := by simpa using hq
      exact own' hu
  · refine ⟨(all qs hqs p hp).1.1, ?_⟩
    rcases List.mem_append.1 hv with hv | hv
    · exact (all qs hqs p hp).2.1 v hv
    · rw [List.mem_singleton.1 hv]; exact (all qs hqs p hp).2.2
  · rcases at_ ha with ⟨ha1, hl⟩ | ⟨hi, rfl⟩
    · rcases at_ hb with ⟨hb1, hl2⟩ | ⟨hj, rfl⟩
      · exact h.apart i j a b hij ha1 hb1 g hga hgb
      · exact hap a (List.mem_of_getElem? ha1) g hga hgb
    · rcases at_ hb with ⟨hb1, hl2⟩ | ⟨hj, rfl⟩
      · exact hap b (List.mem_of_getElem? hb1) g hgb hga
      · exact hij (by omega)
set_option linter.unusedSimpArgs false
theorem ArgT.shape {w : World} {v : Value} (h : ArgT w v) : ∃ A n c, v = .slice A n c ∧ n ≤ c ∧ c ≤ maxLen := by
  obtain ⟨A, n, c, e, h1, h2, _⟩ := h
  exact ⟨A, n, c, e, h1, h2⟩
theorem RowV.notV {w : World} {base base' : Nat} {TS TS' : TypeId} {V U : Value} {us vs : List Value} (h : RowV w base TS V us) (h' : RowV w base' TS' U vs) (hne : TS ≠ TS') : ∀ g, V.ownBlock = some g → U.ownBlock ≠ some g := by
  intro g e e2
  rcases h.2 with ⟨rfl, _⟩ | ⟨g', cap, cur, rfl, _, hg, _⟩
  · cases e
  · rcases h'.2 with ⟨rfl, _⟩ | ⟨g2, cap2, cur2, rfl, _, hg2, _⟩
    · cases e2
    · have e1 : g' = g := by simpa [Value.ownBlock] using e
      have e3 : g2 = g := by simpa [Value.ownBlock] using e2
      subst e1; subst e3
      rw [hg] at hg2
      injection hg2 with hg2
      injection hg2 with _ hg2
      exact hne hg2
theorem RowF.notF {w : World} {base base' : Nat} {T T' : TypeId} {v u : Value} {ps qs : List Elt} (h : RowF T w base v ps) (h' : RowF T' w base' u qs) (hne : T ≠ T') : ∀ g, v.ownBlock = some g → u.ownBlock ≠ some g := by
  intro g e e2
  rcases h.2 with ⟨rfl, _⟩ | ⟨g', cap, cur, rfl, _, hg, _⟩
  · cases e
  · rcases h'.2 with ⟨rfl, _⟩ | ⟨g2, cap2, cur2, rfl, _, hg2, _⟩
    · cases e2
    · have e1 : g' = g := by simpa [Value.ownBlock] using e
      have e3 : g2 = g := by simpa [Value.ownBlock] using e2
      subst e1; subst e3
      rw [hg] at hg2
      injection hg2 with hg2
      injection hg2 with _ hg2
      exact hne hg2
theorem RowV.slice {w : World} {base : Nat} {TS : TypeId} {V : Value} {us : List Value} (h : RowV w base TS V us) : ∃ A c, V = .slice A us.length c := by
  rcases h.2 with ⟨e, h0⟩ | ⟨g, cap, cur, e, _⟩
  · exact ⟨none, 0, by rw [e, h0]⟩
  · exact ⟨_, _, e⟩
/-- Two tables that grow side by side: each one's limbs lie elsewhere than both tables and all rows. -/
structure TwoTabO (w wr : World) (V U : Value) (us vs : List Value) (pss qss : List (List Elt)) : Prop where
  p : TabO .u64 4294967296 44 wr w.heap.size 64 V us pss
  q : TabO .i64 10000 55 wr w.heap.size 87 U vs qss
  c1 : ∀ ps ∈ pss, ∀ p ∈ ps, (∀ v ∈ vs, Far v p.2.1 ∧ Far v p.2.2) ∧ Far U p.2.1 ∧ Far U p.2.2
  c2 : ∀ qs ∈ qss, ∀ p ∈ qs, (∀ v ∈ us, Far v p.2.1 ∧ Far v p.2.2) ∧ Far V p.2.1 ∧ Far V p.2.2
  below : Below w.heap.size w wr
theorem TwoTabO.step {w wr w2 w3 w4 : World} {V U a b V3 U4 : Value} {us vs : List Value} {pss qss : List (List Elt)} {ps rs : List Elt} (h : TwoTabO w wr V U us vs pss qss) (hT : TwoRows wr w2 a b ps rs) (n1 : NewL wr.heap.size ps) (n2 : NewL wr.heap.size rs) (r3 : RowV w3 w.heap.size 64 V3 (us ++ [a])) (g3 : Grew w2 w3 V V3) (b3 : Below w.heap.size w2 w3) (r4 : RowV w4 w.heap.size 87 U4 (vs ++ [b])) (g4 : Grew w3 w4 U U4) (b4 : Below w.heap.size w3 w4) :
    TwoTabO w w4 V3 U4 (us ++ [a]) (vs ++ [b]) (pss ++ [ps]) (qss ++ [rs]) := by
  obtain ⟨t1, t2, ⟨t3, t4⟩, ⟨t5, t6⟩, t7, b2⟩ := hT
  have hw : w.heap.size ≤ wr.heap.size := h.below.size
  have pu : ∀ v ∈ us, ∀ g, v.ownBlock = some g → g < wr.heap.size := fun v hv g e => by
    obtain ⟨qs, hq⟩ := h.p.k.mem hv
    exact hq.under g e
  have qu : ∀ v ∈ vs, ∀ g, v.ownBlock = some g → g < wr.heap.size := fun v hv g e => by
    obtain ⟨qs, hq⟩ := h.q.k.mem hv
    exact hq.under g e
  have pV := h.p.row.under
  have qU := h.q.row.under
  have a0 := t1.base_le
  have b0 := t2.base_le
  have p2 := h.p.below b2
  have q2 := h.q.below b2
  have oldp : ∀ qs ∈ pss, ∀ p ∈ qs, IsE .u64 4294967296 wr p := fun qs hq p hp => (h.p.farV qs hq p hp).1
  have oldq : ∀ qs ∈ qss, ∀ p ∈ qs, IsE .i64 10000 wr p := fun qs hq p hp => (h.q.farV qs hq p hp).1
  have P3 := p2.snoc (by decide) r3 g3 (t1.weak hw) (fun v hv g e e2 => by have := pu v hv g e; have := a0 g e2; omega) t3 (fun v hv => n1.far (pu v hv)) (n1.far pV) (fun qs hq p hp => ⟨(oldp qs hq p hp).1.farOld a0, (oldp qs hq p hp).2.farOld a0⟩)
  have Q3 := q2.kept g3.2.1 (fun g e e2 => RowV.notV p2.row q2.row (by decide) g e2 e) (fun v hv g e e2 => by
    obtain ⟨qs, hq⟩ := q2.k.mem hv
    exact hq.notRow p2.row (by decide) g e e2) (fun qs hq p hp => ⟨(h.c2 qs hq p hp).2.1, (h.c2 qs hq p hp).2.2⟩)
  have hb3 : RowF 55 w3 wr.heap.size b rs := t2.other g3.2.1 fun g e e2 => t2.notRow p2.row (by decide) g e e2
  have n2V := n2.far pV
  have e3 : ∀ p ∈ rs, IsE .i64 10000 w3 p ∧ Far V3 p.2.1 ∧ Far V3 p.2.2 := fun p hp => by
    have x1 := g3.1 _ _ _ (t6 p hp).1.1 (n2V p hp).1
    have x2 := g3.1 _ _ _ (t6 p hp).1.2 (n2V p hp).2
    exact ⟨⟨x1.1, x2.1⟩, x1.2, x2.2⟩
  have Q4 := Q3.snoc (by decide) r4 g4 (hb3.weak hw) (fun v hv g e e2 => by have := qu v hv g e; have := b0 g e2; omega) (fun p hp => ⟨(e3 p hp).1, (t6 p hp).2⟩) (fun v hv => n2.far (qu v hv)) (n2.far qU) (fun qs hq p hp => ⟨(oldq qs hq p hp).1.farOld b0, (oldq qs hq p hp).2.farOld b0⟩)
  have n1U := n1.far qU
  have c1U : ∀ qs ∈ pss ++ [ps], ∀ p ∈ qs, Far U p.2.1 ∧ Far U p.2.2 := fun qs hq p hp => by
    rcases List.mem_append.1 hq with hq | hq
    · exact (h.c1 qs hq p hp).2
    · rw [List.mem_singleton.1 hq] at hp; exact n1U p hp
  have P4 := P3.kept g4.2.1 (fun g e e2 => RowV.notV P3.row Q3.row (by decide) g e e2) (fun v hv g e e2 => by
    obtain ⟨qs, hq⟩ := P3.k.mem hv
    exact hq.notRow Q3.row (by decide) g e e2) c1U
  refine ⟨P4, Q4, fun qs hq p hp => ?_, fun qs hq p hp => ?_, h.below.trans ((b2.mono hw).trans (b3.trans b4))⟩
  · have eU : Far U4 p.2.1 ∧ Far U4 p.2.2 := by
      have e1 := (P3.farV qs hq p hp).1
      exact ⟨(g4.1 _ _ _ e1.1 (c1U qs hq p hp).1).2, (g4.1 _ _ _ e1.2 (c1U qs hq p hp).2).2⟩
    refine ⟨fun v hv => ?_, eU⟩
    rcases List.mem_append.1 hq with hq | hq
    · rcases List.mem_append.1 hv with hv | hv
      · exact (h.c1 qs hq p hp).1 v hv
      · rw [List.mem_singleton.1 hv]; exact ⟨(oldp qs hq p hp).1.farOld b0, (oldp qs hq p hp).2.farOld b0⟩
    · rw [List.mem_singleton.1 hq] at hp
      rcases List.mem_append.1 hv with hv | hv
      · exact n1.far (qu v hv) p hp
      · rw [List.mem_singleton.1 hv]; exact (t4 p hp).2
  · rcases List.mem_append.1 hq with hq | hq
    · have eV : Far V3 p.2.1 ∧ Far V3 p.2.2 := by
        have e1 := (q2.farV qs hq p hp).1
        have f := (h.c2 qs hq p hp).2
        exact ⟨(g3.1 _ _ _ e1.1 f.1).2, (g3.1 _ _ _ e1.2 f.2).2⟩
      refine ⟨fun v hv => ?_, eV⟩
      rcases List.mem_append.1 hv with hv | hv
      · exact (h.c2 qs hq p hp).1 v hv
      · rw [List.mem_singleton.1 hv]; exact ⟨(oldq qs hq p hp).1.farOld a0, (oldq qs hq p hp).2.farOld a0⟩
    · rw [List.mem_singleton.1 hq] at hp
      refine ⟨fun v hv => ?_, (e3 p hp).2⟩
      rcases List.mem_append.1 hv with hv | hv
      · exact n2.far (pu v hv) p hp
      · rw [List.mem_singleton.1 hv]; exact (t5 p hp).2
/-- Two tables of the call's own, of the same small fractions, so many rows of so many places at most. -/
def RetFewX (M : Nat) (w : World) (e : Ending) (w' : World) : Prop := ∃ V U us vs pss qss, e = .returned (.tuple #[V, U]) ∧ TwoTabO w w' V U us vs pss qss ∧ valq qss = valq pss ∧ us.length ≤ M ∧ (∀ r ∈ valq pss, r.length ≤ M ∧ ∀ x ∈ r, lenQ x 1)
set_option maxHeartbeats 6400000 in
set_option maxRecDepth 100000 in
theorem fewt_own (a0 : Value) (M : Nat) (w : World) (h0 : ArgT w a0) (hM : M ≤ 8) :
    Calls Tryz.prog 8 #[a0, .int .i64 (M : Int)] w (RetFewX M w) := by
  have at0 := h0
  obtain ⟨A0, n0, c0, rfl, hc0, hm0⟩ := h0.shape
  unfold maxLen at hm0
  go_enter Tryz.func8, Tryz.ntmps8
  go_wp2
  go_loopw [6, 7, 8] (fun v6 v7 v8 wr => ∃ (k : Nat) (us vs : List Value) (pss qss : List (List Elt)), k ≤ n0 ∧ k ≤ M ∧ Hid (us.length = k) ∧ TwoTabO w wr v6 v7 us vs pss qss ∧ Hid (valq qss = valq pss) ∧ Hid (∀ r ∈ valq pss, r.length ≤ M ∧ ∀ x ∈ r, lenQ x 1) ∧ v8 = .int .i64 (k : Int)) (fun _ _ v8 _ => M - (intOf v8).toNat)
  case atStart =>
    have r0 := rowV_lit0 w w.heap.size 64 (Nat.le_refl _)
    have ba := below_alloc (w := w) (Nat.le_refl _) (.cells #[] 64)
    have r1 := rowV_lit0 (w.alloc (.cells #[] 64)) w.heap.size 87 ba.size
    have bb := below_alloc (w := w.alloc (.cells #[] 64)) (Nat.le_refl _) (.cells #[] 87)
    refine ⟨0, [], [], [], [], by omega, by omega, rfl, ⟨⟨r0.below bb, rfl, fun i u ps hu => by simp at hu, fun u hu => by simp at hu, fun u hu => by simp at hu, fun i j u v _ hu => by simp at hu⟩, ⟨?_, rfl, fun i u ps hu => by simp at hu, fun u hu => by simp at hu, fun u hu => by simp at hu, fun i j u v _ hu => by simp at hu⟩, fun ps hp => by simp at hp, fun ps hp => by simp at hp, ba.trans (bb.mono ba.size)⟩, rfl, (by show ∀ r ∈ _, _; intro r hr; simp [valq] at hr), rfl⟩
    simpa using r1
  case round =>
    obtain ⟨k, us, vs, pss, qss, hk, hkM, HUL, hT, HQP, HVL, rfl⟩ := hrel
    obtain ⟨A6, c6, e6⟩ := RowV.slice hT.p.row
    obtain ⟨A7, c7, e7⟩ := RowV.slice hT.q.row
    subst e6
    subst e7
    by_cases hlt : k < n0 ∧ k < M
    · obtain ⟨hlt1, hlt2⟩ := hlt
      obtain ⟨A_, n_, c_, e_, _, _, hel⟩ := at0.below hT.below
      injection e_ with e1 e2 e3
      subst e1; subst e2; subst e3
      obtain ⟨ad, ue, rfl, ec, hq⟩ := hel k hlt1
      have HT := Lib.hid hT
      clear hel hT
      obtain ⟨Aq, nq, cq, rfl, _⟩ := id hq
      go_wp2_with fail
      refine (few11_two Aq nq cq M _ hq hM).mono ?_
      rintro e w2 ⟨a, b, ps, rs, rfl, hTR, n1, n2, hrs, hpl, hlq⟩
      have b2 := hTR.2.2.2.2.2
      have hw2 : w.heap.size ≤ w2.heap.size := Nat.le_trans HT.out.below.size b2.size
      have P2 := HT.out.p.row.below b2
      have Q2 := HT.out.q.row.below b2
      have HTR := Lib.hid hTR
      have HULb : Hid (us.length ≤ 1000000000 ∧ vs.length ≤ 1000000000) := by
        have h1 := HUL.out
        have h2 := congrArg List.length HQP.out
        rw [valq_len, valq_len, ← HT.out.q.len, ← HT.out.p.len] at h2
        exact ⟨by omega, by omega⟩
      obtain ⟨Aa, ca, ea, _⟩ := hTR.1.isVF
      obtain ⟨Ab, cb, eb, _⟩ := hTR.2.1.isVF
      subst ea
      subst eb
      have HPL := Lib.hid hpl
      clear hTR ec hpl
      go_wp2_with (first
        | (at_builtin; refine wpList_append_w rfl (.tmp 33) (.tmp 35) rfl Tryz.underlying22 info_vec rfl P2 rfl rfl HULb.out.1 hw2 ?_; intro V3 w3 row3 b3 K3; have Q3 : RowV w3 w.heap.size 87 (.slice A7 vs.length c7) vs := RowV.kept Q2 K3.out.2.1 (fun g e e2 => RowV.notV P2 Q2 (by decide) g e2 e); have hw3 : w.heap.size ≤ w3.heap.size := Nat.le_trans hw2 b3.size)
        | (at_builtin; refine wpList_append_w rfl (.tmp 37) (.tmp 39) rfl Tryz.underlying23 info_veq rfl Q3 rfl rfl HULb.out.2 hw3 ?_; intro U4 w4 row4 b4 K4))
      have T4 := HT.out.step HTR.out n1 n2 row3 K3.out b3 row4 K4.out b4
      have HUL4 : Hid ((us ++ [Value.slice Aa ps.length ca]).length = k + 1) := by show _ = _; rw [List.length_append, HUL.out]; rfl
      have HQP4 : Hid (valq (qss ++ [rs]) = valq (pss ++ [ps])) := by
        show _ = _
        have h1 := HQP.out
        unfold valq at h1 ⊢
        rw [List.map_append, List.map_append, h1, List.map_cons, List.map_cons, hrs]; try rfl
      have HVL4 : Hid (∀ r ∈ valq (pss ++ [ps]), r.length ≤ M ∧ ∀ x ∈ r, lenQ x 1) := by
        show ∀ r ∈ _, _
        intro r hr
        unfold valq at hr
        rw [List.map_append] at hr
        rcases List.mem_append.1 hr with hr | hr
        · exact HVL.out r hr
        · obtain rfl : r = ps.map (·.1) := by simpa using hr
          refine ⟨by rw [List.length_map, HPL.out]; omega, fun x hx => ?_⟩
          obtain ⟨p, hp, rfl⟩ := List.mem_map.1 hx
          exact hlq p hp
      have hsk : M - (k + 1) < M - k := by omega
      clear P2 Q2 Q3 K3 K4 row3 row4 n1 n2 hlq hrs HTR
      go_wp2
      go_roundw
      case rel => exact ⟨k + 1, _, _, _, _, by omega, by omega, HUL4, T4, HQP4, HVL4, by go_num⟩
      case measure => simp [intOf]; omega
    · have hx : ¬ k < n0 ∨ (k < n0 ∧ ¬ k < M) := by omega
      have HEND : Hid (RetFewX M w (.returned (.tuple #[.slice A6 us.length c6, .slice A7 vs.length c7])) wr) := ⟨_, _, us, vs, pss, qss, rfl, hT, HQP.out, by rw [HUL.out]; exact hkM, HVL.out⟩
      clear hT HQP HVL
      rcases hx with hx | ⟨hx1, hx2⟩
      all_goals
        go_wp2
        go_ret2
        exact HEND.out
/-- A table of the call's own whose cells hold these values, and rows of the call's own that may be about to be stored. -/
structure TabJ (T : TypeId) (w : World) (base : Nat) (TS : TypeId) (V : Value) (us0 us : List Value) (pss : List (List Elt)) : Prop where
  row : RowV w base TS V us0
  len : us.length = pss.length
  own : ∀ (i : Nat) (u : Value) (ps : List Elt), us[i]? = some u → pss[i]? = some ps → RowF T w base u ps
  apart : ∀ (i j : Nat) (u v : Value), i ≠ j → us[i]? = some u → us[j]? = some v → ∀ h, u.ownBlock = some h → v.ownBlock ≠ some h
section
variable {T TS : TypeId} {w w1 : World} {base : Nat} {V : Value} {us0 us : List Value} {pss : List (List Elt)}
theorem TabK.j (h : TabK T w base TS V us pss) : TabJ T w base TS V us us pss := ⟨h.row, h.len, h.own, h.apart⟩
theorem TabJ.mem (h : TabJ T w base TS V us0 us pss) {u : Value} (hu : u ∈ us) : ∃ ps, RowF T w base u ps := by
  obtain ⟨i, hi⟩ := List.mem_iff_getElem?.1 hu
  have hp : pss[i]? = some (pss[i]'(by rw [← h.len]; exact (List.getElem?_eq_some_iff.1 hi).1)) := List.getElem?_eq_getElem _
  exact ⟨_, h.own i u _ hi hp⟩
theorem TabJ.at (h : TabJ T w base TS V us0 us pss) {i : Nat} {u : Value} (hu : us[i]? = some u) : ∃ ps, pss[i]? = some ps ∧ RowF T w base u ps := by
  have hp : pss[i]? = some (pss[i]'(by rw [← h.len]; exact (List.getElem?_eq_some_iff.1 hu).1)) := List.getElem?_eq_getElem _
  exact ⟨_, hp, h.own i u _ hu hp⟩
theorem TabJ.kept {row : Option Nat} (h : TabJ T w base TS V us0 us pss) (hg : w.grownBy w1 row) (hV : ∀ g, V.ownBlock = some g → row ≠ some g) (hu : ∀ u ∈ us, ∀ g, u.ownBlock = some g → row ≠ some g) : TabJ T w1 base TS V us0 us pss :=
  ⟨RowV.kept h.row hg hV, h.len, fun i u ps hi hp => (h.own i u ps hi hp).other hg (fun g e => hu u (List.mem_of_getElem? hi) g e), h.apart⟩
theorem TabJ.below (h : TabJ T w base TS V us0 us pss) (hb : Below w.heap.size w w1) : TabJ T w1 base TS V us0 us pss :=
  ⟨h.row.below hb, h.len, fun i u ps hi hp => (h.own i u ps hi hp).below hb, h.apart⟩
/-- One row becomes another: it grows, or is cut. -/
theorem TabJ.grow {i : Nat} {u u' : Value} {ps' : List Elt} (hT : T ≠ TS) (h : TabJ T w base TS V us0 us pss) (hu : us[i]? = some u) (hr : RowF T w1 base u' ps') (hg : w.grownBy w1 u.ownBlock) (hn : ∀ g, g < w.heap.size → u.ownBlock ≠ some g → u'.ownBlock ≠ some g) : TabJ T w1 base TS V us0 (us.set i u') (pss.set i ps') := by
  obtain ⟨ps, hps, hui⟩ := h.at hu
  refine ⟨RowV.kept h.row hg fun g e e2 => hui.notRow h.row hT g e2 e, by rw [List.length_set, List.length_set]; exact h.len, fun j x y hx hy => ?_, fun a b x y hab hx hy q hq hq2 => ?_⟩
  · rcases mem_set_at hx with ⟨rfl, rfl⟩ | ⟨hj, hx⟩
    · rcases mem_set_at hy with ⟨_, rfl⟩ | ⟨hj, _⟩
      · exact hr
      · exact absurd rfl hj
    · rcases mem_set_at hy with ⟨e, _⟩ | ⟨_, hy⟩
      · exact absurd e hj
      · exact (h.own j x y hx hy).other hg fun q hq e => h.apart i j u x hj hu hx q e hq
  · rcases mem_set_at hx with ⟨rfl, rfl⟩ | ⟨ha, hx1⟩
    · rcases mem_set_at hy with ⟨e, _⟩ | ⟨_, hy⟩
      · exact hab e
      · obtain ⟨pb, _, hpb⟩ := h.at hy
        exact hn q (hpb.under q hq2) (fun e => h.apart i b u y hab hu hy q e hq2) hq
    · rcases mem_set_at hy with ⟨rfl, rfl⟩ | ⟨hb, hy1⟩
      · obtain ⟨pa, _, hpa⟩ := h.at hx1
        exact hn q (hpa.under q hq) (fun e => h.apart i a u x ha hu hx1 q e hq) hq2
      · exact h.apart a b x y hab hx1 hy1 q hq hq2
end
theorem TabJ.store {T TS : TypeId} {w : World} {base g n c i : Nat} {us0 us : List Value} {pss : List (List Elt)} (hT : T ≠ TS) (h : TabJ T w base TS (.slice (some ⟨g, 0, none⟩) n c) us0 us pss) (u : Value) : TabJ T (w.setCell ⟨g, i, none⟩ u) base TS (.slice (some ⟨g, 0, none⟩) n c) (us0.set i u) us pss :=
  ⟨h.row.stored i u, h.len, fun j x y hx hy => (h.own j x y hx hy).other (grown_set w g i u) fun q hq e => (h.own j x y hx hy).notRow h.row hT q hq e, h.apart⟩
/-- Elements whose limbs lie elsewhere than all of these. -/
def Els (L : List Value) (w : World) (es : List Elt) : Prop := ∀ e ∈ es, IsE .u64 4294967296 w e ∧ ∀ v ∈ L, Far v e.2.1 ∧ Far v e.2.2
theorem Els.below {L : List Value} {w w' : World} {es : List Elt} (h : Els L w es) (hb : Below w.heap.size w w') : Els L w' es := fun e he => ⟨⟨(h e he).1.1.below hb, (h e he).1.2.below hb⟩, (h e he).2⟩
theorem Els.sub {L : List Value} {w : World} {es es' : List Elt} (h : Els L w es) (hs : ∀ e ∈ es', e ∈ es) : Els L w es' := fun e he => h e (hs e he)
theorem Els.less {L L' : List Value} {w : World} {es : List Elt} (h : Els L w es) (hl : ∀ v ∈ L', ∃ u ∈ L, v.ownBlock = u.ownBlock) : Els L' w es := fun e he => ⟨(h e he).1, fun v hv => by
  obtain ⟨u, hu, eu⟩ := hl v hv
  obtain ⟨f1, f2⟩ := (h e he).2 u hu
  unfold Far at f1 f2 ⊢
  rw [eu]
  exact ⟨f1, f2⟩⟩
theorem Els.grow {L : List Value} {w w1 : World} {es : List Elt} {u u' : Value} (h : Els L w es) (hu : u ∈ L) (hg : Grew w w1 u u') : Els (u' :: L) w1 es := fun e he => by
  obtain ⟨e1, e2⟩ := h e he
  obtain ⟨f1, f2⟩ := e2 u hu
  have x1 := hg.1 _ _ _ e1.1 f1
  have x2 := hg.1 _ _ _ e1.2 f2
  refine ⟨⟨x1.1, x2.1⟩, fun v hv => ?_⟩
  rcases List.mem_cons.1 hv with rfl | hv
  · exact ⟨x1.2, x2.2⟩
  · exact e2 v hv
theorem Els.kept {L : List Value} {w w1 : World} {es : List Elt} {u : Value} (h : Els L w es) (hu : u ∈ L) (hg : w.grownBy w1 u.ownBlock) : Els L w1 es := fun e he => by
  obtain ⟨e1, e2⟩ := h e he
  obtain ⟨f1, f2⟩ := e2 u hu
  exact ⟨⟨e1.1.farKept f1 hg, e1.2.farKept f2 hg⟩, e2⟩
theorem flatten_set {pss : List (List Elt)} {i : Nat} {ps : List Elt} {e : Elt} (h : e ∈ (pss.set i ps).flatten) : e ∈ pss.flatten ∨ e ∈ ps := by
  obtain ⟨qs, hq, he⟩ := List.mem_flatten.1 h
  rcases List.mem_or_eq_of_mem_set hq with hq | rfl
  · exact .inl (List.mem_flatten.2 ⟨qs, hq, he⟩)
  · exact .inr he
theorem mem_flat {pss : List (List Elt)} {i : Nat} {ps : List Elt} {e : Elt} (hp : pss[i]? = some ps) (he : e ∈ ps) : e ∈ pss.flatten := List.mem_flatten.2 ⟨ps, List.mem_of_getElem? hp, he⟩
/-- The two tables of the call's own: the program's, and the document's beside it. -/
structure TwoE (w wr : World) (V U : Value) (us0 us vs0 vs : List Value) (pss qss : List (List Elt)) : Prop where
  p : TabJ 44 wr w.heap.size 64 V us0 us pss
  q : TabJ 55 wr w.heap.size 87 U vs0 vs qss
  x : Els (V :: U :: (us ++ vs)) wr pss.flatten
  below : Below w.heap.size w wr
section
variable {w wr w1 : World} {V U : Value} {us0 us vs0 vs : List Value} {pss qss : List (List Elt)}
theorem TwoTabO.e (h : TwoTabO w wr V U us vs pss qss) : TwoE w wr V U us us vs vs pss qss := ⟨h.p.k.j, h.q.k.j, fun e he => by
  obtain ⟨ps, hp, he⟩ := List.mem_flatten.1 he
  have f := h.p.farV ps hp e he
  have c := h.c1 ps hp e he
  refine ⟨f.1, fun v hv => ?_⟩
  rcases List.mem_cons.1 hv with rfl | hv
  · exact f.2
  · rcases List.mem_cons.1 hv with rfl | hv
    · exact c.2
    · rcases List.mem_append.1 hv with hv | hv
      · exact (h.p.far v hv ps hp e he).2
      · exact c.1 v hv, h.below⟩
theorem TwoE.to (h : TwoE w wr V U us0 us vs0 vs pss qss) (hb : Below wr.heap.size wr w1) : TwoE w w1 V U us0 us vs0 vs pss qss := ⟨h.p.below hb, h.q.below hb, h.x.below hb, h.below.trans (hb.mono h.below.size)⟩
theorem TwoE.growP {i : Nat} {u u' : Value} {ps : List Elt} {e : Elt} (h : TwoE w wr V U us0 us vs0 vs pss qss) (hu : us[i]? = some u) (hps : pss[i]? = some ps) (hr : RowF 44 w1 w.heap.size u' (ps ++ [e])) (hg : Grew wr w1 u u') (hn : Els (V :: U :: (us ++ vs)) wr [e]) (hb : Below w.heap.size wr w1) : TwoE w w1 V U us0 (us.set i u') vs0 vs (pss.set i (ps ++ [e])) qss := by
  have hum := List.mem_of_getElem? hu
  obtain ⟨_, _, hui⟩ := h.p.at hu
  have huL : u ∈ V :: U :: (us ++ vs) := List.mem_cons_of_mem _ (List.mem_cons_of_mem _ (List.mem_append_left _ hum))
  refine ⟨h.p.grow (by decide) hu hr hg.2.1 hg.2.2, h.q.kept hg.2.1 (fun g a b => hui.notRow h.q.row (by decide) g b a) (fun v hv g a b => ?_), ?_, h.below.trans hb⟩
  · obtain ⟨rs, hrs⟩ := h.q.mem hv
    exact hrs.notF hui (by decide) g a b
  · have x1 := (h.x.grow huL hg).less (L' := V :: U :: (us.set i u' ++ vs)) fun v hv => ?_
    · have x2 := (hn.grow huL hg).less (L' := V :: U :: (us.set i u' ++ vs)) fun v hv => ?_
      · intro e' he'
        rcases flatten_set he' with he' | he'
        · exact x1 e' he'
        · rcases List.mem_append.1 he' with he' | he'
          · exact x1 e' (mem_flat hps he')
          · exact x2 e' he'
      · refine ⟨v, ?_, rfl⟩
        rcases List.mem_cons.1 hv with rfl | hv
        · simp
        · rcases List.mem_cons.1 hv with rfl | hv
          · simp
          · rcases List.mem_append.1 hv with hv | hv
            · rcases List.mem_or_eq_of_mem_set hv with hv | rfl
              · simp [hv]
              · simp
            · simp [hv]
    · refine ⟨v, ?_, rfl⟩
      rcases List.mem_cons.1 hv with rfl | hv
      · simp
      · rcases List.mem_cons.1 hv with rfl | hv
        · simp
        · rcases List.mem_append.1 hv with hv | hv
          · rcases List.mem_or_eq_of_mem_set hv with hv | rfl
            · simp [hv]
            · simp
          · simp [hv]
theorem TwoE.growQ {i : Nat} {u u' : Value} {rs' : List Elt} (h : TwoE w wr V U us0 us vs0 vs pss qss) (hu : vs[i]? = some u) (hr : RowF 55 w1 w.heap.size u' rs') (hg : Grew wr w1 u u') (hb : Below w.heap.size wr w1) : TwoE w w1 V U us0 us vs0 (vs.set i u') pss (qss.set i rs') := by
  have hum := List.mem_of_getElem? hu
  obtain ⟨_, _, hui⟩ := h.q.at hu
  have huL : u ∈ V :: U :: (us ++ vs) := List.mem_cons_of_mem _ (List.mem_cons_of_mem _ (List.mem_append_right _ hum))
  refine ⟨h.p.kept hg.2.1 (fun g a b => hui.notRow h.p.row (by decide) g b a) (fun v hv g a b => ?_), h.q.grow (by decide) hu hr hg.2.1 hg.2.2, (h.x.grow huL hg).less fun v hv => ?_, h.below.trans hb⟩
  · obtain ⟨rs, hrs⟩ := h.p.mem hv
    exact hrs.notF hui (by decide) g a b
  · refine ⟨v, ?_, rfl⟩
    rcases List.mem_cons.1 hv with rfl | hv
    · simp
    · rcases List.mem_cons.1 hv with rfl | hv
      · simp
      · rcases List.mem_append.1 hv with hv | hv
        · simp [hv]
        · rcases List.mem_or_eq_of_mem_set hv with hv | rfl
          · simp [hv]
          · simp
theorem TwoE.cutP {i : Nat} {u u' : Value} {ps ps' : List Elt} (h : TwoE w wr V U us0 us vs0 vs pss qss) (hu : us[i]? = some u) (hps : pss[i]? = some ps) (hr : RowF 44 wr w.heap.size u' ps') (ho : u'.ownBlock = u.ownBlock) (hs : ∀ e ∈ ps', e ∈ ps) : TwoE w wr V U us0 (us.set i u') vs0 vs (pss.set i ps') qss := by
  have hum := List.mem_of_getElem? hu
  refine ⟨h.p.grow (by decide) hu hr ⟨rfl, rfl, rfl, Nat.le_refl _, fun _ _ _ => rfl⟩ (fun g _ a => by rw [ho]; exact a), h.q, (h.x.sub (es' := (pss.set i ps').flatten) fun e he => ?_).less fun v hv => ?_, h.below⟩
  · rcases flatten_set he with he | he
    · exact he
    · exact mem_flat hps (hs e he)
  · rcases List.mem_cons.1 hv with rfl | hv
    · exact ⟨v, by simp, rfl⟩
    · rcases List.mem_cons.1 hv with rfl | hv
      · exact ⟨v, by simp, rfl⟩
      · rcases List.mem_append.1 hv with hv | hv
        · rcases List.mem_or_eq_of_mem_set hv with hv | rfl
          · exact ⟨v, by simp [hv], rfl⟩
          · exact ⟨u, by simp [hum], ho⟩
        · exact ⟨v, by simp [hv], rfl⟩
theorem TwoE.cutQ {i : Nat} {u u' : Value} {rs' : List Elt} (h : TwoE w wr V U us0 us vs0 vs pss qss) (hu : vs[i]? = some u) (hr : RowF 55 wr w.heap.size u' rs') (ho : u'.ownBlock = u.ownBlock) : TwoE w wr V U us0 us vs0 (vs.set i u') pss (qss.set i rs') := by
  have hum := List.mem_of_getElem? hu
  refine ⟨h.p, h.q.grow (by decide) hu hr ⟨rfl, rfl, rfl, Nat.le_refl _, fun _ _ _ => rfl⟩ (fun g _ a => by rw [ho]; exact a), h.x.less fun v hv => ?_, h.below⟩
  rcases List.mem_cons.1 hv with rfl | hv
  · exact ⟨v, by simp, rfl⟩
  · rcases List.mem_cons.1 hv with rfl | hv
    · exact ⟨v, by simp, rfl⟩
    · rcases List.mem_append.1 hv with hv | hv
      · exact ⟨v, by simp [hv], rfl⟩
      · rcases List.mem_or_eq_of_mem_set hv with hv | rfl
        · exact ⟨v, by simp [hv], rfl⟩
        · exact ⟨u, by simp [hum], ho⟩
theorem TwoE.storeP {g n c i : Nat} (h : TwoE w wr (.slice (some ⟨g, 0, none⟩) n c) U us0 us vs0 vs pss qss) (u : Value) : TwoE w (wr.setCell ⟨g, i, none⟩ u) (.slice (some ⟨g, 0, none⟩) n c) U (us0.set i u) us vs0 vs pss qss := by
  have hg := grown_set wr g i u
  refine ⟨h.p.store (by decide) u, h.q.kept hg (fun q a b => ?_) (fun v hv q a b => ?_), h.x.kept (u := .slice (some ⟨g, 0, none⟩) n c) (by simp) hg, h.below.setCell (p := ⟨g, i, none⟩) (h.p.row.base_le g rfl) u⟩
  · exact RowV.notV h.q.row h.p.row (by decide) q a b
  · obtain ⟨rs, hrs⟩ := h.q.mem hv
    exact hrs.notRow h.p.row (by decide) q a b
theorem TwoE.storeQ {g n c i : Nat} (h : TwoE w wr V (.slice (some ⟨g, 0, none⟩) n c) us0 us vs0 vs pss qss) (u : Value) : TwoE w (wr.setCell ⟨g, i, none⟩ u) V (.slice (some ⟨g, 0, none⟩) n c) us0 us (vs0.set i u) vs pss qss := by
  have hg := grown_set wr g i u
  refine ⟨h.p.kept hg (fun q a b => ?_) (fun v hv q a b => ?_), h.q.store (by decide) u, h.x.kept (u := .slice (some ⟨g, 0, none⟩) n c) (by simp) hg, h.below.setCell (p := ⟨g, i, none⟩) (h.q.row.base_le g rfl) u⟩
  · exact RowV.notV h.p.row h.q.row (by decide) q a b
  · obtain ⟨rs, hrs⟩ := h.p.mem hv
    exact hrs.notRow h.q.row (by decide) q a b
theorem TwoE.slT (h : TwoE w wr V U us us vs vs pss qss) : SlT .u64 4294967296 wr V (valq pss) := by
  refine ⟨us, by rw [valq, List.length_map]; exact h.p.len, ?_, fun i u r hu hr => ?_⟩
  · rcases h.p.row.2 with ⟨rfl, h0⟩ | ⟨g, cap, cur, rfl, _, hg, hn, hm, _, _⟩
    · obtain rfl : us = [] := List.length_eq_zero_iff.1 h0
      exact ⟨none, 0, rfl, by simp, by unfold maxLen; omega, fun i u hu => by simp at hu⟩
    · exact ⟨_, cap, rfl, hn, hm, fun i u hu => ⟨_, rfl, World.ownsRow.cells h.p.row (g := g) rfl i u hu⟩⟩
  rw [valq, List.getElem?_map] at hr
  cases hp : pss[i]? with
  | none => rw [hp] at hr; cases hr
  | some ps =>
    rw [hp] at hr
    obtain rfl : ps.map (·.1) = r := by simpa using hr
    exact (h.p.own i u ps hu hp).sl fun e he => by
      obtain ⟨e1, e2⟩ := h.x e (mem_flat hp he)
      exact ⟨e1, e2 u (by simp [List.mem_of_getElem? hu])⟩
/-- Limbs in new memory lie elsewhere than all that there is. -/
theorem TwoE.new (h : TwoE w wr V U us0 us vs0 vs pss qss) {e : Elt} (hb : Below wr.heap.size wr w1) (he : IsE .u64 4294967296 w1 e) (f1 : Fresh wr.heap.size e.2.1) (f2 : Fresh wr.heap.size e.2.2) : Els (V :: U :: (us ++ vs)) w1 [e] := fun e' he' => by
  rw [List.mem_singleton.1 he']
  refine ⟨he, fun v hv => ?_⟩
  have hu : ∀ g, v.ownBlock = some g → g < wr.heap.size := by
    rcases List.mem_cons.1 hv with rfl | hv
    · exact h.p.row.under
    · rcases List.mem_cons.1 hv with rfl | hv
      · exact h.q.row.under
      · rcases List.mem_append.1 hv with hv | hv
        · obtain ⟨_, hp⟩ := h.p.mem hv; exact hp.under
        · obtain ⟨_, hp⟩ := h.q.mem hv; exact hp.under
  exact ⟨f1.far hu, f2.far hu⟩
end
theorem lenQ_small (k : Nat) (hk : k ≤ 1000) : lenQ ((k : Int) : Rat) 1 := lenQ_of (digs_len_le (k := 1) (by omega) (by simp; omega)) (digs_len_le (k := 1) (by omega) (by simp))
theorem addr_plus (g o i : Nat) : (⟨g, o, none⟩ : Addr).add i = ⟨g, o + i, none⟩ := by
  unfold Addr.add
  by_cases h : i = 0
  · simp [h]
  · simp [h]
theorem TabS.at_ {k : IntKind} {B : Nat} {w : World} {g : Nat} {TS : TypeId} {us : List Value} {T : List (List Rat)} (h : TabS k B w g TS us T) {i : Nat} {r : List Rat} (hr : T[i]? = some r) : ∃ Ar cr, us[i]? = some (.slice Ar r.length cr) ∧ w.cell? ⟨g, i, none⟩ = some (.slice Ar r.length cr) ∧ SlF k B w (.slice Ar r.length cr) r := by
  have hi : i < us.length := by rw [h.2.1]; exact (List.getElem?_eq_some_iff.1 hr).1
  have hu : us[i]? = some us[i] := List.getElem?_eq_getElem hi
  have hs := h.2.2 i _ r hu hr
  obtain ⟨Ar, cr, e, _, _⟩ := hs.shape
  have hc := h.1.cell hu
  rw [addr_zero] at hc
  rw [e] at hu hs hc
  exact ⟨Ar, cr, hu, hc, hs⟩
/-- A part of the table, read. -/
theorem TabS.sub {k : IntKind} {B : Nat} {w : World} {g : Nat} {TS : TypeId} {us : List Value} {T : List (List Rat)} (h : TabS k B w g TS us T) {o m c : Nat} (hm : o + m ≤ T.length) (hc : m ≤ c) (hx : c ≤ maxLen) : SlT k B w (.slice (some ⟨g, o, none⟩) m c) ((T.drop o).take m) := by
  have hl : us.length = T.length := h.2.1
  have e1 : ((us.drop o).take m).length = m := by rw [List.length_take, List.length_drop]; omega
  refine ⟨(us.drop o).take m, by rw [e1, List.length_take, List.length_drop]; omega, ⟨some ⟨g, o, none⟩, c, by rw [e1], by rw [e1]; exact hc, hx, fun i u hu => ⟨_, rfl, ?_⟩⟩, fun i u r hu hr => ?_⟩
  · rw [addr_plus]
    have hi : i < m := by have := (List.getElem?_eq_some_iff.1 hu).1; omega
    rw [List.getElem?_take_of_lt hi, List.getElem?_drop] at hu
    have hcc := h.1.cell hu
    rwa [addr_zero] at hcc
  · have hi : i < m := by have := (List.getElem?_eq_some_iff.1 hu).1; omega
    rw [List.getElem?_take_of_lt hi, List.getElem?_drop] at hu hr
    exact h.2.2 _ u r hu hr
/-- A table of the call's own, at its full length, as one that is written row by row. -/
theorem TabO.tabS {T0 : TypeId} {w : World} {base g n : Nat} {TS : TypeId} {us : List Value} {pss : List (List Elt)} {k : IntKind} {B : Nat} (h : TabO k B T0 w base TS (.slice (some ⟨g, 0, none⟩) n n) us pss) (hn : us.length = n) : TabS k B w g TS us (valq pss) := by
  refine ⟨⟨?_, fun u hu => ?_⟩, by rw [valq_len]; exact h.len, fun i u r hu hr => ?_⟩
  · rcases h.row.2 with ⟨e, _⟩ | ⟨g', cap, cur, e, _, hg, _, _, h1, h2⟩
    · cases e
    · injection e with e1 e2 e3
      injection e1 with e1
      injection e1 with e1 _ _
      subst e1
      have e : cur = us.toArray := by
        apply Array.toList_inj.1
        rw [← h2, List.take_of_length_le (by simp; omega)]
      unfold Blk
      rw [hg, e]
  · obtain ⟨i, hi⟩ := List.mem_iff_getElem?.1 hu
    obtain ⟨ps, hp⟩ : ∃ ps, pss[i]? = some ps := ⟨_, List.getElem?_eq_getElem (by rw [← h.len]; exact (List.getElem?_eq_some_iff.1 hi).1)⟩
    have hf := (h.own i u ps hi hp).isVF
    obtain ⟨A, c, e, _⟩ := hf
    exact ⟨A, _, c, e⟩
  · rw [valq, List.getElem?_map] at hr
    cases hp : pss[i]? with
    | none => rw [hp] at hr; cases hr
    | some ps =>
      rw [hp] at hr
      obtain rfl : ps.map (·.1) = r := by simpa using hr
      exact (h.own i u ps hu hp).sl (h.far u (List.mem_of_getElem? hu) ps (List.mem_of_getElem? hp))
theorem RowV.weak {w : World} {base base' : Nat} {TS : TypeId} {V : Value} {us : List Value} (h : RowV w base TS V us) (hb : base' ≤ base) : RowV w base' TS V us := by
  refine ⟨h.1, ?_⟩
  rcases h.2 with hn | ⟨g, cap, cur, hv, hg, rest⟩
  · exact .inl hn
  · exact .inr ⟨g, cap, cur, hv, Nat.le_trans hb hg, rest⟩
theorem TabO.weak {k : IntKind} {B : Nat} {T TS : TypeId} {w : World} {base base' : Nat} {V : Value} {us : List Value} {pss : List (List Elt)} (h : TabO k B T w base TS V us pss) (hb : base' ≤ base) : TabO k B T w base' TS V us pss :=
  ⟨RowV.weak h.row hb, h.len, fun i u ps hu hp => RowF.weak (h.own i u ps hu hp) hb, h.far, h.farV, h.apart⟩
theorem listT_one {w : World} {v u0 : Value} {t0 : List (List Rat)} (h : IsV w v [u0]) (h0 : SlT .u64 4294967296 w u0 t0) : ListT w v [t0] :=
  ⟨[u0], rfl, h, by simp, fun i u t hu ht => by
    rcases i with _ | i
    · obtain rfl : u0 = u := by simpa using hu
      obtain rfl : t0 = t := by simpa using ht
      exact h0
    · simp at hu⟩
/-- The first row that is not nought at the place. -/
def RetFirst (L : List (List Rat)) (a : Nat) (w : World) (e : Ending) (w' : World) : Prop := ∃ k : Nat, e = .returned (.int .i64 (k : Int)) ∧ k ≤ L.length ∧ (∀ i, i < k → entF L i a = 0) ∧ (k < L.length → entF L k a ≠ 0) ∧ Below w.heap.size w w'
set_option maxHeartbeats 3200000 in
set_option maxRecDepth 100000 in
theorem gfirst_any (a0 : Value) (L : List (List Rat)) (a : Nat) (w : World) (h0 : SlT .u64 4294967296 w a0 L) (hl : ∀ r ∈ L, a < r.length) : Calls Tryz.prog 100 #[a0, .int .i64 (a : Int)] w (RetFirst L a w) := by
  have st0 := h0
  obtain ⟨A0, c0, rfl, hc0, hm0⟩ := h0.shape
  unfold maxLen at hm0
  have HL := Lib.hid hl
  clear hl
  go_enter Tryz.func100, Tryz.ntmps100
  go_wp2
  go_loopw [8] (fun v8 wr => ∃ k : Nat, k ≤ L.length ∧ Hid (∀ i, i < k → entF L i a = 0) ∧ Below w.heap.size w wr ∧ v8 = .int .i64 (k : Int)) (fun v8 _ => L.length - (intOf v8).toNat)
  case atStart => exact ⟨0, by omega, (by show ∀ i, _; intro i hi; omega), Below.refl _ _, rfl⟩
  case round =>
    obtain ⟨k, hk, HZ, bb, rfl⟩ := hrel
    by_cases hlt : k < L.length
    · obtain ⟨r, hr⟩ : ∃ r, L[k]? = some r := ⟨_, List.getElem?_eq_getElem hlt⟩
      have hal := HL.out r (List.mem_of_getElem? hr)
      obtain ⟨q, hq⟩ : ∃ q, r[a]? = some q := ⟨_, List.getElem?_eq_getElem hal⟩
      have he : Hid (entF L k a = q) := entF_of hr hq
      obtain ⟨ad, rfl⟩ := st0.place (List.length_pos_iff.1 (by omega))
      obtain ⟨Ar, cr, hik, ecr, sr⟩ := (st0.below bb).at2 hr
      obtain ⟨gr, or, u, t, rfl, hia, k0, k1, k2, su, st⟩ := sr.at_ hq
      obtain ⟨Au, cu, rfl, _⟩ := id su
      obtain ⟨At, ct, rfl, _⟩ := id st
      have hix := fun w => index3 (P := Tryz.prog) Tryz.underlying64 (by kernel_rfl) (g := gr) (o := or) (c := cr) hia w
      have kq : IsQ wr (.agg #[.bool (ngB q.num), .slice Au (digs 4294967296 q.num.natAbs).length cu, .slice At (digs 4294967296 q.den).length ct]) q := ⟨_, _, rfl, su, st⟩
      obtain ⟨t, ht⟩ : ∃ t, t = ordz q.num 0 := ⟨_, rfl⟩
      have hz : (t == 0) = decide (q = 0) := by rw [ht, num_ordz0]
      have HT := Lib.hid ht
      clear hr hq ht sr
      go_wp2_with fail
      refine (fsign0_any _ q t _ kq HT.out).mono ?_
      rintro e w4 ⟨rfl, b4⟩
      have bb4 := bb.trans (b4.mono bb.size)
      by_cases hq0 : q = 0
      · obtain rfl : t = 0 := by
          rw [hq0] at hz
          simpa using hz
        have HZ2 : Hid (∀ i, i < k + 1 → entF L i a = 0) := by
          show ∀ i, _
          intro i hi
          by_cases e : i = k
          · subst e; rw [he.out]; exact hq0
          · exact HZ.out i (by omega)
        clear hz hq0 kq k0 k1 k2
        go_wp2
        go_roundw
        case rel => exact ⟨k + 1, by omega, HZ2, bb4, by go_num⟩
        case measure => simp [intOf]; omega
      · have hz1 : ¬ t = 0 := by
          intro e
          rw [e, decide_eq_false hq0] at hz
          exact absurd hz (by decide)
        have HN : Hid (entF L k a ≠ 0) := by show _ ≠ _; rw [he.out]; exact hq0
        clear hz hq0 kq k0 k1 k2
        go_wp2
        go_ret
        exact ⟨k, rfl, by omega, HZ.out, fun _ => HN.out, bb4⟩
    · obtain rfl : k = L.length := by omega
      go_wp2
      go_ret
      exact ⟨_, rfl, Nat.le_refl _, HZ.out, fun h => by omega, bb⟩
theorem besides_one (T : List (List Rat)) : besides T.length [T] ↔ mayq T := by
  unfold besides
  constructor
  · intro h; exact (h T List.mem_cons_self).1
  · intro h t ht
    obtain rfl := List.mem_singleton.1 ht
    exact ⟨h, rfl⟩
theorem besideT_one (T : List (List Rat)) : besideT T.length [T] = T := joinq_nil T
set_option maxHeartbeats 1600000 in
set_option maxRecDepth 100000 in
theorem tbown_any (a0 : Value) (T : List (List Rat)) (w : World) (h0 : SlT .u64 4294967296 w a0 T) (hl : wideq T ≤ 200 ∧ T.length ≤ 200 ∧ lenT T 100000) : Calls Tryz.prog 48 #[a0] w (fun e w' => (mayq T ∧ RetTO T.length T w e w') ∨ (¬ mayq T ∧ RetTE [] 8 w e w')) := by
  have st0 := h0
  obtain ⟨A0, c0, rfl, hc0, hm0⟩ := h0.shape
  have HL := Lib.hid hl
  clear hl
  have ba := below_alloc (w := w) (Nat.le_refl _) (.cells #[.slice A0 T.length c0] 22)
  have HV := listT_one (isV_lit w 22 [.slice A0 T.length c0]) (st0.below ba)
  have HLV := Lib.hid HV
  clear HV
  go_enter Tryz.func48, Tryz.ntmps48
  go_wp2_with fail
  refine (mbeside_own _ [T] T _ HLV.out rfl ⟨by simp, by simp; exact HL.out.1, fun t ht => by rw [List.mem_singleton.1 ht]; exact HL.out.2.2, HL.out.2.1⟩).mono ?_
  rintro e w2 h2
  rw [besides_one, besideT_one] at h2
  rcases h2 with ⟨hm, g, us, pss, rfl, hT, hV, hU, hg, b2⟩ | ⟨hm, V, rfl, hS, b2⟩
  · have bb := ba.trans (b2.mono ba.size)
    have hw : w.heap.size ≤ (w.alloc (.cells #[.slice A0 T.length c0] 22)).heap.size := ba.size
    have HE := Lib.hid (And.intro hm (And.intro hV (And.intro hU (Nat.le_trans hw hg))))
    have HT := Lib.hid hT
    clear hm hT hV hU hg hw
    go_wp2
    go_ret2
    exact .inl ⟨HE.out.1, g, us, pss, rfl, TabO.weak HT.out ba.size, HE.out.2.1, HE.out.2.2.1, HE.out.2.2.2, bb⟩
  · rw [if_neg (by decide)] at hS
    obtain ⟨AV, cV, rfl, -, -⟩ := hS.shape
    have bb := ba.trans (b2.mono ba.size)
    have HN := Lib.hid hm
    clear hm
    go_wp2
    go_ret2
    exact .inr ⟨HN.out, _, rfl, by rw [if_neg (by decide)]; exact hS, bb⟩
end Go.Proofs.YtfnohdgnhdfpaaaGreat.rat
