/- Package vect: own, EqualFunc, Less, Same, Greatest. Condition: as each says.
Package matrix: what only reads: Size, fit, alike, Same; the document's Wide; the statements' even, Is. Condition: as each says.
Package matrix: whether a table may be (a function's value with a captured variable), Check. Condition: as each says.
Rows of one fraction written out in a region; a table's place; what the types of rows and tables are. Condition: as each says.
Package matrix: copied, bare, dots, Column. Condition: as each says.
Rows of the call's own that grow within a table of its own: how what was there stays. Condition: as each says.
Package matrix: appended. Condition: as each says.
Package matrix: joined, turned: rows of the call's own that grow within a table. Condition: as each says.
Package matrix: product, Ident, Add, Apply, Turn. Condition: as each says.
Package matrix: Add, Mul. Condition: as each says.
Package matrix: Beside. Condition: as each says.
Package sparse: copied, Get. Condition: as each says.
Package sparse: Put, More. Condition: as each says.
Package sparse: fits, dot, Apply. Condition: as each says.
An argument as a slice of slices of fractions. Condition: it can be read as data.
An append to a row of slices of the call's own: how what was there stays. Condition: as it says.
Few: two rows of fractions of the call's own out of an argument; tables of such rows. Condition: as each says.
Few of a table: two tables of the call's own out of an argument. Condition: as it says.
Package gauss: tables that a call changes row by row; first, own, square. Condition: as each says.
Package gauss: clearPlace. Condition: as each says.
Rows of one-cell elements that a call makes by append, all of whose cells, also those behind the last element, are of one sort; what of fractions stays when such a row is written. Condition: as each says.
Package gauss: down. Condition: as each says. -/
import Derived.Test.YtmpalajamfiiiaaGreatKB4
import Derived.Deep.RegionHeld3
import Derived.BigRegion
import Derived.Deep.CutRange
namespace Go.Proofs.YtmpalajamfiiiaaGreat.rat
open Go.RowKit Go.Proofs.YtmpalajamfiiiaaGreat.num Go.Proofs.YtmpalajamfiiiaaGreat.mem Go.Proofs.YtmpalajamfiiiaaGreat.nat Go.Proofs.YtmpalajamfiiiaaGreat.txt Go.Proofs.YtmpalajamfiiiaaGreat.str Go.Proofs.YtmpalajamfiiiaaGreat.flow Go.Proofs.YtmpalajamfiiiaaGreat.whl
set_option linter.unusedVariables false
set_option linter.unusedSimpArgs false
set_option maxHeartbeats 1600000 in
set_option maxRecDepth 100000 in
theorem vown_any (a0 : Value) (x : Rat) (w : World) (h0 : IsQ w a0 x) (hl : lenQ x 100000) :
  Calls Tryz.prog 126 #[a0] w (RetQ x w) := by
 obtain ⟨u0, t0, rfl, s0, r0⟩ := h0
 obtain ⟨A0, c0, rfl, _⟩ := id s0
 obtain ⟨D0, e0, rfl, _⟩ := id r0
 go_enter Tryz.func126, Tryz.ntmps126
 go_upto_region 1 with (fail)
 obtain ⟨wx, hwx, bb, B0, BR0, hsz⟩ := vars2 w 44 44 #[.bool (ngB (x).num), .slice A0 (digs 4294967296 (x).num.natAbs).length c0, .slice D0 (digs 4294967296 (x).den).length e0] #[.bool false, .slice none 0 0, .slice none 0 0]
 rw [hwx]
 clear hwx
 have k0s := s0.below bb
 have k0d := r0.below bb
 have k0z : IsZ wx (.agg #[.bool (ngB (x).num), .slice A0 (digs 4294967296 (x).num.natAbs).length c0]) (x).num := ⟨_, rfl, k0s⟩
 have k0 : IsQ wx (.agg #[.bool (ngB (x).num), .slice A0 (digs 4294967296 (x).num.natAbs).length c0, .slice D0 (digs 4294967296 (x).den).length e0]) (x) := ⟨_, _, rfl, k0s, k0d⟩
 have hsz0 := bb.size
 have sB := bb.size
 refine flow 13 [Pd.eq (.pointer (some ⟨w.heap.size, 0, none⟩)), Pd.eq (.pointer (some ⟨w.heap.size, 0, none⟩)), Pd.eq (.bool (ngB (x).num)), Pd.eq (.pointer (some ⟨w.heap.size, 0, none⟩)), Pd.eq (.pointer (some ⟨w.heap.size, 1, none⟩)), Pd.eq (.slice A0 (digs 4294967296 (x).num.natAbs).length c0), ps .u64 (digs 4294967296 (x).num.natAbs) wx.heap.size, Pd.eq (.pointer (some ⟨w.heap.size, 2, none⟩)), Pd.eq (.slice D0 (digs 4294967296 (x).den).length e0), ps .u64 (digs 4294967296 (x).den) wx.heap.size, Pd.eq (.bool (ngB (x).num)), ps .u64 (digs 4294967296 (x).num.natAbs) wx.heap.size, ps .u64 (digs 4294967296 (x).den) wx.heap.size] (by kernel_rfl) (by kernel_rfl) ?ob1 ?done1
 case ob1 =>
  refine And.intro (ob_fieldAddr rfl (wt_none rfl) (ev_far rfl rfl) (fun _ => by kernel_rfl) (fun _ => rfl)) ?_
  refine And.intro (ob_fieldAddr rfl (wt_none rfl) (ev_dep (j := 0) (by kernel_rfl) rfl rfl) (fun _ => by kernel_rfl) (fun _ => rfl)) ?_
  refine And.intro (ob_load rfl (wt_none rfl) (ev_dep (j := 1) (by kernel_rfl) rfl rfl) (fun w2 hb => run_load1 Tryz.underlying4 rfl ((B0.drew.below hb).cell 0)) (fun _ _ => rfl)) ?_
  refine And.intro (ob_fieldAddr rfl (wt_none rfl) (ev_far rfl rfl) (fun _ => by kernel_rfl) (fun _ => rfl)) ?_
  refine And.intro (ob_fieldAddr rfl (wt_none rfl) (ev_dep (j := 3) (by kernel_rfl) rfl rfl) (fun _ => by kernel_rfl) (fun _ => rfl)) ?_
  refine And.intro (ob_load rfl (wt_none rfl) (ev_dep (j := 4) (by kernel_rfl) rfl rfl) (fun w2 hb => run_load1 Tryz.underlying40 rfl ((B0.drew.below hb).cell 1)) (fun _ _ => rfl)) ?_
  refine And.intro (ob_call1 rfl Tryz.func93 (by kernel_rfl) (wt_none rfl) (ev_dep (j := 5) (by kernel_rfl) rfl rfl) (fun w2 u0 hb h0 => by obtain rfl := h0; exact (clone_any _ _ _ (k0s.drew.below hb) (Nat.le_trans hl.1 (by decide))).mono fun e w3 h => RetS.pd h hb.size)) ?_
  refine And.intro (ob_fieldAddr rfl (wt_none rfl) (ev_far rfl rfl) (fun _ => by kernel_rfl) (fun _ => rfl)) ?_
  refine And.intro (ob_load rfl (wt_none rfl) (ev_dep (j := 7) (by kernel_rfl) rfl rfl) (fun w2 hb => run_load1 Tryz.underlying40 rfl ((B0.drew.below hb).cell 2)) (fun _ _ => rfl)) ?_
  refine And.intro (ob_call1 rfl Tryz.func93 (by kernel_rfl) (wt_none rfl) (ev_dep (j := 8) (by kernel_rfl) rfl rfl) (fun w2 u0 hb h0 => by obtain rfl := h0; exact (clone_any _ _ _ (k0d.drew.below hb) (Nat.le_trans hl.2 (by decide))).mono fun e w3 h => RetS.pd h hb.size)) ?_
  refine And.intro (ob_assign rfl (wt_none rfl) (ev_dep (j := 2) (by kernel_rfl) rfl rfl) (fun _ _ h => h)) ?_
  refine And.intro (ob_assign rfl (wt_none rfl) (ev_dep (j := 6) (by kernel_rfl) rfl rfl) (fun _ _ h => h)) ?_
  refine And.intro (ob_assign rfl (wt_none rfl) (ev_dep (j := 9) (by kernel_rfl) rfl rfl) (fun _ _ h => h)) ?_
  trivial
 case done1 =>
  refine fun w1 hb1 v0 h0 v1 h1 v2 h2 v3 h3 v4 h4 v5 h5 v6 h6 v7 h7 v8 h8 v9 h9 v10 h10 v11 h11 v12 h12 b hbf => ?_
  obtain rfl := h0; obtain rfl := h1; obtain rfl := h2; obtain rfl := h3; obtain rfl := h4; obtain rfl := h5; obtain rfl := h7; obtain rfl := h8; obtain rfl := h10
  obtain ⟨q6, f6⟩ := h6
  obtain ⟨q9, f9⟩ := h9
  obtain ⟨q11, f11⟩ := h11
  obtain ⟨q12, f12⟩ := h12
  simp only [Act.put, List.setIfInBounds_toArray, List.set_cons_zero, List.set_cons_succ] at hbf
  subst hbf
  replace B0 := B0.below hb1
  replace k0s := k0s.below hb1
  replace k0d := k0d.below hb1
  replace k0z := k0z.below hb1
  replace k0 := k0.below hb1
  replace BR0 := BR0.below hb1
  replace bb := bb.trans (hb1.mono bb.size)
  have hsz1 := bb.size
  have s_6 := sB
  have s_9 := sB
  have s_11 := sB
  have s_12 := sB
  refine any_done (by kernel_rfl) ?_
  obtain ⟨A4, c4, rfl, _⟩ := id q11
  have n4 := q11
  have n4f := f11
  have n4z_ := s_11
  obtain ⟨A5, c5, rfl, _⟩ := id q12
  have n5 := q12
  have n5f := f12
  have n5z_ := s_12
  have sB := bb.size
  go_upto_region 2 with (fail)
  refine flowp 5 [Pd.eq (.bool (ngB (x).num)), Pd.eq (.slice A4 (digs 4294967296 (x).num.natAbs).length c4), Pd.eq (.agg #[.bool (ngB (x).num), .slice A4 (digs 4294967296 (x).num.natAbs).length c4]), Pd.eq (.slice A5 (digs 4294967296 (x).den).length c5), Pd.eq (.agg #[.bool (ngB (x).num), .slice A4 (digs 4294967296 (x).num.natAbs).length c4, .slice A5 (digs 4294967296 (x).den).length c5])] (by kernel_rfl) ?ob2 ?done2
  case ob2 =>
   refine And.intro (ob_move rfl (wt_none rfl) (ev_far rfl rfl) (fun _ _ h => h)) ?_
   refine And.intro (ob_move rfl (wt_none rfl) (ev_far rfl rfl) (fun _ _ h => h)) ?_
   refine And.intro (ob_build2b rfl (wt_none rfl) (ev_dep (j := 0) (by kernel_rfl) rfl rfl) (ev_dep (j := 1) (by kernel_rfl) rfl rfl) (fun w2 u v hb hu hv => by obtain rfl := hu; obtain rfl := hv; exact ⟨.agg #[.bool (ngB (x).num), .slice A4 (digs 4294967296 (x).num.natAbs).length c4], by kernel_rfl, rfl⟩)) ?_
   refine And.intro (ob_move rfl (wt_none rfl) (ev_far rfl rfl) (fun _ _ h => h)) ?_
   refine And.intro (ob_build2b rfl (wt_none rfl) (ev_dep (j := 2) (by kernel_rfl) rfl rfl) (ev_dep (j := 3) (by kernel_rfl) rfl rfl) (fun w2 u v hb hu hv => by obtain rfl := hu; obtain rfl := hv; exact ⟨.agg #[.bool (ngB (x).num), .slice A4 (digs 4294967296 (x).num.natAbs).length c4, .slice A5 (digs 4294967296 (x).den).length c5], by kernel_rfl, rfl⟩)) ?_
   trivial
  case done2 =>
   refine fun w2 hb2 v0 h0 v1 h1 v2 h2 v3 h3 v4 h4 b hbf => ?_
   obtain rfl := h0; obtain rfl := h1; obtain rfl := h2; obtain rfl := h3; obtain rfl := h4
   simp only [Act.put, List.setIfInBounds_toArray, List.set_cons_zero, List.set_cons_succ] at hbf
   subst hbf
   replace B0 := B0.below hb2
   replace k0s := k0s.below hb2
   replace k0d := k0d.below hb2
   replace k0z := k0z.below hb2
   replace k0 := k0.below hb2
   replace BR0 := BR0.below hb2
   replace n4 := n4.below hb2
   replace n5 := n5.below hb2
   replace bb := bb.trans (hb2.mono bb.size)
   have hsz2 := bb.size
   refine ops_store (i := 5) rfl rfl rfl rfl rfl rfl (cells := [.bool (ngB (x).num), .slice A4 (digs 4294967296 (x).num.natAbs).length c4, .slice A5 (digs 4294967296 (x).den).length c5]) rfl BR0 rfl (by kernel_rfl) (one3 rfl rfl rfl) fun w9 hg9 B9 => ?_
   have k9 := off n4 BR0 no_ints3 hg9
   have d9 := off n5 BR0 no_ints3 hg9
   have bb9 := bb.trans ((Below.refl _ _).grown hg9 bb.size (fun g hg => by injection hg with hg; omega))
   obtain ⟨C0, C1, C2, _, _, _⟩ := three B9
   refine ops_done ?_
   go_wp2
   exact bodyPost_ret (v := .agg #[.bool (ngB (x).num), .slice A4 (digs 4294967296 (x).num.natAbs).length c4, .slice A5 (digs 4294967296 (x).den).length c5]) (by simp [results, Tryz.results126, go_sem, C0, C1, C2]) rfl ⟨_, rfl, isQ_mk k9 d9 rfl rfl rfl, freshQ_mk (n4f.mono n4z_) (n5f.mono n5z_), bb9⟩
set_option maxHeartbeats 3200000 in
set_option maxRecDepth 100000 in
theorem fless_own (a0 a1 a2 : Value) (p : List Rat) (K : Rat) (q : List Rat) (m l n : Nat) (w : World) (h0 : SlF .u64 4294967296 w a0 p) (h1 : IsQ w a1 K) (h2 : SlF .u64 4294967296 w a2 q) (he : p.length = q.length) (hl : p.length ≤ 1000 ∧ (∀ x ∈ p, lenQ x m) ∧ lenQ K l ∧ (∀ x ∈ q, lenQ x n) ∧ m ≤ 4900 ∧ l + n ≤ 4900) :
    Calls Tryz.prog 106 #[a0, a1, a2] w (RetRN (lessq p K q) w) := by
  obtain ⟨u1, t1, rfl, s1, r1⟩ := h1
  obtain ⟨A1, c1, rfl, _⟩ := id s1
  obtain ⟨D1, e1, rfl, _⟩ := id r1
  have sl0 := h0
  obtain ⟨A0, c0, rfl, hc0, hm0⟩ := h0.shape
  unfold maxLen at hm0
  have sl2 := h2
  obtain ⟨A2, c2, rfl, hc2, hm2⟩ := h2.shape
  unfold maxLen at hm2
  have HNE : Hid ((((p.length : Nat) : Int) != ((q.length : Nat) : Int)) = false) := by show _ = _; rw [bne_eq_false_iff_eq]; omega
  have HE := Lib.hid he
  have HL := Lib.hid hl
  have lK : lenQ K l := hl.2.2.1
  have hm9 : m ≤ 4900 := hl.2.2.2.2.1
  have hn9 : l + n ≤ 4900 := hl.2.2.2.2.2
  have hl8 : p.length ≤ 1000 := hl.1
  have HRL : Hid ((lessq p K q).length = p.length) := lessq_len he
  clear hl he
  go_enter Tryz.func106, Tryz.ntmps106
  go_upto_region 1 with (fail)
  obtain ⟨wx, hwx, bb, B1, hsz⟩ := vars1 w 44 #[.bool (ngB (K).num), .slice A1 (digs 4294967296 (K).num.natAbs).length c1, .slice D1 (digs 4294967296 (K).den).length e1]
  rw [hwx]
  clear hwx
  have k1s := s1.below bb
  have k1d := r1.below bb
  have k1z : IsZ wx (.agg #[.bool (ngB (K).num), .slice A1 (digs 4294967296 (K).num.natAbs).length c1]) (K).num := ⟨_, rfl, k1s⟩
  have k1 : IsQ wx (.agg #[.bool (ngB (K).num), .slice A1 (digs 4294967296 (K).num.natAbs).length c1, .slice D1 (digs 4294967296 (K).den).length e1]) (K) := ⟨_, _, rfl, k1s, k1d⟩
  have hsz0 := bb.size
  have sB := bb.size
  refine flowp 5 [Pd.eq (.slice A0 p.length c0), Pd.eq (.int .i64 ((p.length : Nat) : Int)), Pd.eq (.slice A2 q.length c2), Pd.eq (.int .i64 ((q.length : Nat) : Int)), Pd.eq (.bool false)] (by kernel_rfl) ?ob4 ?done4
  case ob4 =>
    refine And.intro (ob_move rfl (wt_none rfl) (ev_far rfl rfl) (fun _ _ h => h)) ?_
    refine And.intro (ob_len rfl (wt_none rfl) (ev_dep (j := 0) (by kernel_rfl) rfl rfl) (fun _ _ hx => ⟨_, by rw [hx]; exact len_slice Tryz.underlying64 _ _ _ _, rfl⟩)) ?_
    refine And.intro (ob_move rfl (wt_none rfl) (ev_far rfl rfl) (fun _ _ h => h)) ?_
    refine And.intro (ob_len rfl (wt_none rfl) (ev_dep (j := 2) (by kernel_rfl) rfl rfl) (fun _ _ hx => ⟨_, by rw [hx]; exact len_slice Tryz.underlying64 _ _ _ _, rfl⟩)) ?_
    refine And.intro (ob_bin rfl (wt_none rfl) (ev_dep (j := 1) (by kernel_rfl) rfl rfl) (ev_dep (j := 3) (by kernel_rfl) rfl rfl) (fun _ _ _ hx hy => ⟨.bool false, by rw [hx, hy, bin_neq_int, HNE.out], rfl⟩)) ?_
    trivial
  case done4 =>
    refine fun w1 hb1 v0 h0 v1 h1 v2 h2 v3 h3 v4 h4 b hbf => ?_
    obtain rfl := h0; obtain rfl := h1; obtain rfl := h2; obtain rfl := h3; obtain rfl := h4
    simp only [Act.put, List.setIfInBounds_toArray, List.set_cons_zero, List.set_cons_succ] at hbf
    subst hbf
    replace B1 := B1.below hb1
    replace k1s := k1s.below hb1
    replace k1d := k1d.below hb1
    replace k1z := k1z.below hb1
    replace k1 := k1.below hb1
    replace bb := bb.trans (hb1.mono bb.size)
    have hsz1 := bb.size
    refine ops_done ?_
    go_wp2_with (at_make; refine wpList_make_q rfl _ _ rfl Tryz.underlying64 info_rat p.length rfl rfl (by omega) ?_; intro wm RN hbm)
    have hwg : w.heap.size ≤ w1.heap.size := bb.size
    have hlb4 := B1.lt
    replace B1 := B1.below hbm
    replace k1s := k1s.below hbm
    replace k1d := k1d.below hbm
    replace k1z := k1z.below hbm
    replace k1 := k1.below hbm
    replace bb := bb.trans (hbm.mono bb.size)
    have hsz2 := bb.size
    obtain ⟨g, hg⟩ : ∃ g, g = w1.heap.size := ⟨_, rfl⟩
    rw [← hg] at RN ⊢
    have hg_ : w1.heap.size ≤ g := by omega
    clear hg
    have hg := hg_
    clear hg_
    have hgw : w.heap.size ≤ g := by omega
    have RN0 : RowN wm g p.length ((lessq p K q).take 0) := RN
    clear RN
    go_wp2
    go_loopw [21] (fun v21 wr => ∃ k : Nat, k ≤ p.length ∧ RowN wr g p.length ((lessq p K q).take k) ∧ Blk wr (w.heap.size) 44 #[.bool (ngB (K).num), .slice A1 (digs 4294967296 (K).num.natAbs).length c1, .slice D1 (digs 4294967296 (K).den).length e1] ∧ Below w.heap.size w wr ∧ v21 = .int .i64 (k : Int)) (fun v21 _ => p.length - (intOf v21).toNat)
    case atStart => exact ⟨0, by omega, RN0, B1, bb, rfl⟩
    case round =>
      obtain ⟨k, hk, hR, hB4, hbw, rfl⟩ := hrel
      clear RN0 bb B1 k1s k1d k1z k1
      have RN := hR
      have bb := hbw
      clear hR hbw
      have B1 := hB4
      have k1s := s1.below bb
      have k1d := r1.below bb
      have k1z : IsZ wr (.agg #[.bool (ngB (K).num), .slice A1 (digs 4294967296 (K).num.natAbs).length c1]) (K).num := ⟨_, rfl, k1s⟩
      have k1 : IsQ wr (.agg #[.bool (ngB (K).num), .slice A1 (digs 4294967296 (K).num.natAbs).length c1, .slice D1 (digs 4294967296 (K).den).length e1]) (K) := ⟨_, _, rfl, k1s, k1d⟩
      have hlc4 := B1.lt
      clear hB4
      have hszr := bb.size
      have hgl := RN.lt
      by_cases hlt : k < p.length
      · obtain ⟨x, hq0_⟩ : ∃ x, p[k]? = some x := ⟨_, List.getElem?_eq_getElem hlt⟩
        obtain ⟨g0_, o0_, ue0, te0, hA0_, _, e00, e01, e02, es0, ed0⟩ := (sl0.below bb).at_ hq0_
        subst hA0_
        have HQ0 := Lib.hid hq0_
        clear hq0_
        obtain ⟨Ae0, ce0, rfl, _⟩ := id es0
        obtain ⟨De0, ee0, rfl, _⟩ := id ed0
        have ke0 : IsQ wr (.agg #[.bool (ngB x.num), .slice Ae0 (digs 4294967296 x.num.natAbs).length ce0, .slice De0 (digs 4294967296 x.den).length ee0]) x := ⟨_, _, rfl, es0, ed0⟩
        have hlt2 : k < q.length := by have := HE.out; omega
        obtain ⟨y, hy⟩ : ∃ y, q[k]? = some y := ⟨_, List.getElem?_eq_getElem hlt2⟩
        have HY := Lib.hid hy
        have lx : lenQ x m := HL.out.2.1 x (List.mem_of_getElem? HQ0.out)
        have ly : lenQ y n := HL.out.2.2.2.1 y (List.mem_of_getElem? hy)
        have lky : lenQ (K * y) (l + n) := lenQ_mul lK ly
        have HAT : Hid ((lessq p K q)[k]? = some (x - K * y)) := zip_at HQ0.out hy
        clear hy
        have hneq : q ≠ [] := List.length_pos_iff.1 (by omega)
        have HTK : Hid ((lessq p K q).take (k + 1) = (lessq p K q).take k ++ [(x - K * y)]) := take_snoc HAT.out
        have HLK : Hid (k = ((lessq p K q).take k).length) := by show _ = _; rw [List.length_take, HRL.out]; omega
        have sB := bb.size
        go_upto_region 6 with (fail)
        have lt3_4 := Blk.lt B1
        refine flowp 5 [Pd.eq (.int .i64 (k : Int)), Pd.eq (.pointer (some ⟨g0_, o0_ + k * 3, none⟩)), Pd.eq (.agg #[.bool (ngB x.num), .slice Ae0 (digs 4294967296 x.num.natAbs).length ce0, .slice De0 (digs 4294967296 x.den).length ee0]), pn 44 #[.bool false, .slice none 0 0, .slice none 0 0] wr.heap.size, Pd.eq (.int .i64 (k : Int))] (by kernel_rfl) ?ob5 ?done5
        case ob5 =>
          refine And.intro (ob_move rfl (wt_none rfl) (ev_far rfl rfl) (fun _ _ h => h)) ?_
          refine And.intro (ob_indexAddr rfl (wt_none rfl) (ev_far rfl rfl) (ev_far rfl rfl) (fun _ _ _ hx hy => ⟨_, by rw [hx, hy]; exact index3 Tryz.underlying64 (by kernel_rfl) hlt _, rfl⟩)) ?_
          refine And.intro (ob_load rfl (wt_none rfl) (ev_dep (j := 1) (by kernel_rfl) rfl rfl) (fun w2 hb => load3 Tryz.underlying44 rfl (by kernel_rfl) ((hb.cell (World.block_lt_of_cell? wr _ e00)).trans e00) ((hb.cell (World.block_lt_of_cell? wr _ e01)).trans e01) ((hb.cell (World.block_lt_of_cell? wr _ e02)).trans e02)) (fun _ _ => rfl)) ?_
          refine And.intro (ob_alloc (z := .agg #[.bool false, .slice none 0 0, .slice none 0 0]) rfl rfl (fun _ => by kernel_rfl) (fun _ _ hB h => ⟨_, rfl, hB, h⟩)) ?_
          refine And.intro (ob_assign rfl (wt_none rfl) (ev_dep (j := 0) (by kernel_rfl) rfl rfl) (fun _ _ h => h)) ?_
          trivial
        case done5 =>
          refine fun w4 hb4 v0 h0 v1 h1 v2 h2 v3 h3 d3 v4 h4 b hbf => ?_
          obtain rfl := h0; obtain rfl := h1; obtain rfl := h2; obtain rfl := h4
          obtain ⟨g5_3, rfl, hg3, B3⟩ := h3
          simp only [Act.put, List.setIfInBounds_toArray, List.set_cons_zero, List.set_cons_succ] at hbf
          subst hbf
          replace B1 := B1.below hb4
          replace k1s := k1s.below hb4
          replace k1d := k1d.below hb4
          replace k1z := k1z.below hb4
          replace k1 := k1.below hb4
          replace RN := RN.below hb4
          replace es0 := es0.below hb4
          replace ed0 := ed0.below hb4
          replace bb := bb.trans (hb4.mono bb.size)
          have hsz4 := bb.size
          have BA10 := B3
          have q2 := es0
          have d2 := ed0
          refine ops_store (i := 5) rfl rfl rfl rfl rfl rfl (cells := [.bool (ngB (x).num), .slice Ae0 (digs 4294967296 (x).num.natAbs).length ce0, .slice De0 (digs 4294967296 (x).den).length ee0]) rfl BA10 rfl (by kernel_rfl) (one3 rfl rfl rfl) fun w5 hg5 BN5 => ?_
          replace q2 := off q2 BA10 no_ints3 hg5
          replace d2 := off d2 BA10 no_ints3 hg5
          replace RN := RowN.offb RN BA10 no_ints3 hg5 (by omega)
          replace k1s := off k1s BA10 no_ints3 hg5
          replace k1d := off k1d BA10 no_ints3 hg5
          replace k1z : IsZ w5 (.agg #[.bool (ngB (K).num), .slice A1 (digs 4294967296 (K).num.natAbs).length c1]) ((K).num) := ⟨_, rfl, k1s⟩
          replace k1 : IsQ w5 (.agg #[.bool (ngB (K).num), .slice A1 (digs 4294967296 (K).num.natAbs).length c1, .slice D1 (digs 4294967296 (K).den).length e1]) (K) := ⟨_, _, rfl, k1s, k1d⟩
          replace B1 := B1.grown hg5 (by omega)
          replace bb := bb.trans ((Below.refl _ _).grown hg5 bb.size (fun g hg => by injection hg with hg; omega))
          have hsz5 := bb.size
          have Be0 : Blk w5 (g5_3) _ _ := BN5
          have ke0s := q2
          have ke0d := d2
          have ke0z : IsZ w5 (.agg #[.bool (ngB (x).num), .slice Ae0 (digs 4294967296 (x).num.natAbs).length ce0]) ((x).num) := ⟨_, rfl, ke0s⟩
          have ke0 : IsQ w5 (.agg #[.bool (ngB (x).num), .slice Ae0 (digs 4294967296 (x).num.natAbs).length ce0, .slice De0 (digs 4294967296 (x).den).length ee0]) (x) := ⟨_, _, rfl, ke0s, ke0d⟩
          refine ops_done ?_
          have hle := Be0.lt
          have hneE : g ≠ g5_3 := by omega
          obtain ⟨g2_, o2_, cp2_, hA2_, _, _, _⟩ := sl2.place hneq
          injection hA2_ with e1_ _ e3_
          subst e1_
          subst e3_
          obtain ⟨uy, ty, hlty, zy0, zy1, zy2, zys, zyd⟩ := (sl2.below bb).at2 HY.out
          obtain ⟨Ay, cy, rfl, _⟩ := id zys
          obtain ⟨Dy, ey, rfl, _⟩ := id zyd
          have zy : IsQ w5 (.agg #[.bool (ngB (y).num), .slice Ay (digs 4294967296 (y).num.natAbs).length cy, .slice Dy (digs 4294967296 (y).den).length ey]) (y) := ⟨_, _, rfl, zys, zyd⟩
          by_cases hv : K * y = 0
          · have HV : Hid (true = decide (K * y = 0)) := (decide_eq_true hv).symm
            have HXE : Hid (x = x - K * y) := by show _ = _; rw [hv]; grind
            clear hv
            have sB := bb.size
            go_upto_region 7 with (fail)
            refine flow 6 [Pd.eq (.agg #[.bool (ngB (K).num), .slice A1 (digs 4294967296 (K).num.natAbs).length c1, .slice D1 (digs 4294967296 (K).den).length e1]), Pd.eq (.slice (some ⟨g2_, o2_, none⟩) q.length c2), Pd.eq (.int .i64 (k : Int)), Pd.eq (.pointer (some ⟨g2_, o2_ + k * 3, none⟩)), Pd.eq (.agg #[.bool (ngB (y).num), .slice Ay (digs 4294967296 (y).num.natAbs).length cy, .slice Dy (digs 4294967296 (y).den).length ey]), Pd.eq (.bool true)] (by kernel_rfl) (by kernel_rfl) ?ob6 ?done6
            case ob6 =>
              refine And.intro (ob_load rfl (wt_none rfl) (ev_far rfl rfl) (fun w2 hb => run_loadAll Tryz.underlying44 rfl (by kernel_rfl) (B1.drew.below hb)) (fun _ _ => rfl)) ?_
              refine And.intro (ob_move rfl (wt_none rfl) (ev_far rfl rfl) (fun _ _ h => h)) ?_
              refine And.intro (ob_move rfl (wt_none rfl) (ev_far rfl rfl) (fun _ _ h => h)) ?_
              refine And.intro (ob_indexAddr rfl (wt_none rfl) (ev_dep (j := 1) (by kernel_rfl) rfl rfl) (ev_dep (j := 2) (by kernel_rfl) rfl rfl) (fun _ _ _ hx hy => ⟨_, by rw [hx, hy]; exact index3 (k := k) Tryz.underlying64 (by kernel_rfl) hlty _, rfl⟩)) ?_
              refine And.intro (ob_load rfl (wt_none rfl) (ev_dep (j := 3) (by kernel_rfl) rfl rfl) (fun w2 hb => load3 Tryz.underlying44 rfl (by kernel_rfl) ((hb.cell (World.block_lt_of_cell? w5 _ zy0)).trans zy0) ((hb.cell (World.block_lt_of_cell? w5 _ zy1)).trans zy1) ((hb.cell (World.block_lt_of_cell? w5 _ zy2)).trans zy2)) (fun _ _ => rfl)) ?_
              refine And.intro (ob_call2 rfl Tryz.func119 (by kernel_rfl) (wt_none rfl) (ev_dep (j := 0) (by kernel_rfl) rfl rfl) (ev_dep (j := 4) (by kernel_rfl) rfl rfl) (fun w2 u0 u1 hb h0 h1 => by obtain rfl := h0; obtain rfl := h1; exact (vanishes_any _ _ (K) (y) true _ (k1.drew.below hb) (zy.drew.below hb) HV.out).mono fun e w3 h => RetV.pd h)) ?_
              trivial
            case done6 =>
              refine fun w7 hb7 v0 h0 v1 h1 v2 h2 v3 h3 v4 h4 v5 h5 b hbf => ?_
              obtain rfl := h0; obtain rfl := h1; obtain rfl := h2; obtain rfl := h3; obtain rfl := h4; obtain rfl := h5
              simp only [Act.put, List.setIfInBounds_toArray, List.set_cons_zero, List.set_cons_succ] at hbf
              subst hbf
              replace B1 := B1.below hb7
              replace k1s := k1s.below hb7
              replace k1d := k1d.below hb7
              replace k1z := k1z.below hb7
              replace k1 := k1.below hb7
              replace Be0 := Be0.below hb7
              replace ke0s := ke0s.below hb7
              replace ke0d := ke0d.below hb7
              replace ke0z := ke0z.below hb7
              replace ke0 := ke0.below hb7
              replace RN := RN.below hb7
              replace bb := bb.trans (hb7.mono bb.size)
              have hsz7 := bb.size
              refine any_done (by kernel_rfl) ?_
              clear zy zy0 zy1 zy2 zys zyd
              have sB := bb.size
              go_upto_region 8 with (fail)
              refine flowp 5 [Pd.eq (.slice (some ⟨g, 0, none⟩) p.length p.length), Pd.eq (.int .i64 (k : Int)), Pd.eq (.agg #[.bool (ngB (x).num), .slice Ae0 (digs 4294967296 (x).num.natAbs).length ce0, .slice De0 (digs 4294967296 (x).den).length ee0]), pq ((x - K * y)) w7.heap.size, Pd.eq (.pointer (some ⟨g, 0 + k * 3, none⟩))] (by kernel_rfl) ?ob7 ?done7
              case ob7 =>
                refine And.intro (ob_move rfl (wt_none rfl) (ev_far rfl rfl) (fun _ _ h => h)) ?_
                refine And.intro (ob_move rfl (wt_none rfl) (ev_far rfl rfl) (fun _ _ h => h)) ?_
                refine And.intro (ob_load rfl (wt_none rfl) (ev_far rfl rfl) (fun w2 hb => run_loadAll Tryz.underlying44 rfl (by kernel_rfl) (Be0.below hb)) (fun _ _ => rfl)) ?_
                refine And.intro (ob_call1 rfl Tryz.func126 (by kernel_rfl) (wt_none rfl) (ev_dep (j := 2) (by kernel_rfl) rfl rfl) (fun w2 u0 hb h0 => by obtain rfl := h0; exact (vown_any _ x _ (ke0.below hb) (lx.mono (by omega))).mono fun e w3 h => RetQ.pd (h.to HXE.out) hb.size)) ?_
                refine And.intro (ob_indexAddr rfl (wt_none rfl) (ev_dep (j := 0) (by kernel_rfl) rfl rfl) (ev_dep (j := 1) (by kernel_rfl) rfl rfl) (fun _ _ _ hx hy => ⟨_, by rw [hx, hy]; exact index3 (k := k) Tryz.underlying64 (by kernel_rfl) hlt _, rfl⟩)) ?_
                trivial
              case done7 =>
                refine fun w8 hb8 v0 h0 v1 h1 v2 h2 v3 h3 v4 h4 b hbf => ?_
                obtain rfl := h0; obtain rfl := h1; obtain rfl := h2; obtain rfl := h4
                obtain ⟨q3, f3⟩ := h3
                simp only [Act.put, List.setIfInBounds_toArray, List.set_cons_zero, List.set_cons_succ] at hbf
                subst hbf
                replace B1 := B1.below hb8
                replace k1s := k1s.below hb8
                replace k1d := k1d.below hb8
                replace k1z := k1z.below hb8
                replace k1 := k1.below hb8
                replace Be0 := Be0.below hb8
                replace ke0s := ke0s.below hb8
                replace ke0d := ke0d.below hb8
                replace ke0z := ke0z.below hb8
                replace ke0 := ke0.below hb8
                replace RN := RN.below hb8
                replace bb := bb.trans (hb8.mono bb.size)
                have hsz8 := bb.size
                have s_3 := sB
                obtain ⟨u3, t3, rfl, q3, d3⟩ := q3
                obtain ⟨A9, c9, rfl, _⟩ := id q3
                obtain ⟨D9, e9, rfl, _⟩ := id d3
                refine ops_store_q (j := 5) rfl rfl rfl rfl (g := g) (i := k) (q := (x - K * y)) rfl rfl (by kernel_rfl) RN hlt q3 d3 fun w9 hg9 hP9 => ?_
                replace k1s := RN.keep hg9 k1s
                replace k1d := RN.keep hg9 k1d
                replace k1z : IsZ w9 (.agg #[.bool (ngB (K).num), .slice A1 (digs 4294967296 (K).num.natAbs).length c1]) ((K).num) := ⟨_, rfl, k1s⟩
                replace k1 : IsQ w9 (.agg #[.bool (ngB (K).num), .slice A1 (digs 4294967296 (K).num.natAbs).length c1, .slice D1 (digs 4294967296 (K).den).length e1]) (K) := ⟨_, _, rfl, k1s, k1d⟩
                replace B1 := B1.grown hg9 (by omega)
                replace ke0s := RN.keep hg9 ke0s
                replace ke0d := RN.keep hg9 ke0d
                replace ke0z : IsZ w9 (.agg #[.bool (ngB (x).num), .slice Ae0 (digs 4294967296 (x).num.natAbs).length ce0]) ((x).num) := ⟨_, rfl, ke0s⟩
                replace ke0 : IsQ w9 (.agg #[.bool (ngB (x).num), .slice Ae0 (digs 4294967296 (x).num.natAbs).length ce0, .slice De0 (digs 4294967296 (x).den).length ee0]) (x) := ⟨_, _, rfl, ke0s, ke0d⟩
                replace Be0 := Be0.grown hg9 (by omega)
                replace bb := bb.trans ((Below.refl _ _).grown hg9 bb.size (fun g hg => by injection hg with hg; omega))
                have hsz9 := bb.size
                replace RN := hP9.1 HLK.out
                clear hP9
                refine ops_done ?_
                rw [← HTK.out] at RN
                have hsk : p.length - (k + 1) < p.length - k := by omega
                go_wp2
                go_roundw
                case rel => exact ⟨k + 1, by omega, RN, B1, bb, by go_num⟩
                case measure => simp [intOf]; omega
          · have HV : Hid (false = decide (K * y = 0)) := (decide_eq_false hv).symm
            clear hv
            have sB := bb.size
            go_upto_region 7 with (fail)
            refine flow 6 [Pd.eq (.agg #[.bool (ngB (K).num), .slice A1 (digs 4294967296 (K).num.natAbs).length c1, .slice D1 (digs 4294967296 (K).den).length e1]), Pd.eq (.slice (some ⟨g2_, o2_, none⟩) q.length c2), Pd.eq (.int .i64 (k : Int)), Pd.eq (.pointer (some ⟨g2_, o2_ + k * 3, none⟩)), Pd.eq (.agg #[.bool (ngB (y).num), .slice Ay (digs 4294967296 (y).num.natAbs).length cy, .slice Dy (digs 4294967296 (y).den).length ey]), Pd.eq (.bool false)] (by kernel_rfl) (by kernel_rfl) ?ob8 ?done8
            case ob8 =>
              refine And.intro (ob_load rfl (wt_none rfl) (ev_far rfl rfl) (fun w2 hb => run_loadAll Tryz.underlying44 rfl (by kernel_rfl) (B1.drew.below hb)) (fun _ _ => rfl)) ?_
              refine And.intro (ob_move rfl (wt_none rfl) (ev_far rfl rfl) (fun _ _ h => h)) ?_
              refine And.intro (ob_move rfl (wt_none rfl) (ev_far rfl rfl) (fun _ _ h => h)) ?_
              refine And.intro (ob_indexAddr rfl (wt_none rfl) (ev_dep (j := 1) (by kernel_rfl) rfl rfl) (ev_dep (j := 2) (by kernel_rfl) rfl rfl) (fun _ _ _ hx hy => ⟨_, by rw [hx, hy]; exact index3 (k := k) Tryz.underlying64 (by kernel_rfl) hlty _, rfl⟩)) ?_
              refine And.intro (ob_load rfl (wt_none rfl) (ev_dep (j := 3) (by kernel_rfl) rfl rfl) (fun w2 hb => load3 Tryz.underlying44 rfl (by kernel_rfl) ((hb.cell (World.block_lt_of_cell? w5 _ zy0)).trans zy0) ((hb.cell (World.block_lt_of_cell? w5 _ zy1)).trans zy1) ((hb.cell (World.block_lt_of_cell? w5 _ zy2)).trans zy2)) (fun _ _ => rfl)) ?_
              refine And.intro (ob_call2 rfl Tryz.func119 (by kernel_rfl) (wt_none rfl) (ev_dep (j := 0) (by kernel_rfl) rfl rfl) (ev_dep (j := 4) (by kernel_rfl) rfl rfl) (fun w2 u0 u1 hb h0 h1 => by obtain rfl := h0; obtain rfl := h1; exact (vanishes_any _ _ (K) (y) false _ (k1.drew.below hb) (zy.drew.below hb) HV.out).mono fun e w3 h => RetV.pd h)) ?_
              trivial
            case done8 =>
              refine fun w7 hb7 v0 h0 v1 h1 v2 h2 v3 h3 v4 h4 v5 h5 b hbf => ?_
              obtain rfl := h0; obtain rfl := h1; obtain rfl := h2; obtain rfl := h3; obtain rfl := h4; obtain rfl := h5
              simp only [Act.put, List.setIfInBounds_toArray, List.set_cons_zero, List.set_cons_succ] at hbf
              subst hbf
              replace B1 := B1.below hb7
              replace k1s := k1s.below hb7
              replace k1d := k1d.below hb7
              replace k1z := k1z.below hb7
              replace k1 := k1.below hb7
              replace Be0 := Be0.below hb7
              replace ke0s := ke0s.below hb7
              replace ke0d := ke0d.below hb7
              replace ke0z := ke0z.below hb7
              replace ke0 := ke0.below hb7
              replace RN := RN.below hb7
              replace bb := bb.trans (hb7.mono bb.size)
              have hsz7 := bb.size
              refine any_done (by kernel_rfl) ?_
              clear zy zy0 zy1 zy2 zys zyd
              obtain ⟨ub, tb, hltb, zb0, zb1, zb2, zbs, zbd⟩ := (sl2.below bb).at2 HY.out
              obtain ⟨Ab, cb, rfl, _⟩ := id zbs
              obtain ⟨Db, eb, rfl, _⟩ := id zbd
              have zb : IsQ w7 (.agg #[.bool (ngB (y).num), .slice Ab (digs 4294967296 (y).num.natAbs).length cb, .slice Db (digs 4294967296 (y).den).length eb]) (y) := ⟨_, _, rfl, zbs, zbd⟩
              have sB := bb.size
              go_upto_region 9 with (fail)
              refine flow 11 [Pd.eq (.slice (some ⟨g, 0, none⟩) p.length p.length), Pd.eq (.int .i64 (k : Int)), Pd.eq (.agg #[.bool (ngB (x).num), .slice Ae0 (digs 4294967296 (x).num.natAbs).length ce0, .slice De0 (digs 4294967296 (x).den).length ee0]), Pd.eq (.agg #[.bool (ngB (K).num), .slice A1 (digs 4294967296 (K).num.natAbs).length c1, .slice D1 (digs 4294967296 (K).den).length e1]), Pd.eq (.slice (some ⟨g2_, o2_, none⟩) q.length c2), Pd.eq (.int .i64 (k : Int)), Pd.eq (.pointer (some ⟨g2_, o2_ + k * 3, none⟩)), Pd.eq (.agg #[.bool (ngB (y).num), .slice Ab (digs 4294967296 (y).num.natAbs).length cb, .slice Db (digs 4294967296 (y).den).length eb]), pqn (K * y), pq ((x - K * y)) w7.heap.size, Pd.eq (.pointer (some ⟨g, 0 + k * 3, none⟩))] (by kernel_rfl) (by kernel_rfl) ?ob9 ?done9
              case ob9 =>
                refine And.intro (ob_move rfl (wt_none rfl) (ev_far rfl rfl) (fun _ _ h => h)) ?_
                refine And.intro (ob_move rfl (wt_none rfl) (ev_far rfl rfl) (fun _ _ h => h)) ?_
                refine And.intro (ob_load rfl (wt_none rfl) (ev_far rfl rfl) (fun w2 hb => run_loadAll Tryz.underlying44 rfl (by kernel_rfl) (Be0.drew.below hb)) (fun _ _ => rfl)) ?_
                refine And.intro (ob_load rfl (wt_none rfl) (ev_far rfl rfl) (fun w2 hb => run_loadAll Tryz.underlying44 rfl (by kernel_rfl) (B1.drew.below hb)) (fun _ _ => rfl)) ?_
                refine And.intro (ob_move rfl (wt_none rfl) (ev_far rfl rfl) (fun _ _ h => h)) ?_
                refine And.intro (ob_move rfl (wt_none rfl) (ev_far rfl rfl) (fun _ _ h => h)) ?_
                refine And.intro (ob_indexAddr rfl (wt_none rfl) (ev_dep (j := 4) (by kernel_rfl) rfl rfl) (ev_dep (j := 5) (by kernel_rfl) rfl rfl) (fun _ _ _ hx hy => ⟨_, by rw [hx, hy]; exact index3 (k := k) Tryz.underlying64 (by kernel_rfl) hltb _, rfl⟩)) ?_
                refine And.intro (ob_load rfl (wt_none rfl) (ev_dep (j := 6) (by kernel_rfl) rfl rfl) (fun w2 hb => load3 Tryz.underlying44 rfl (by kernel_rfl) ((hb.cell (World.block_lt_of_cell? w7 _ zb0)).trans zb0) ((hb.cell (World.block_lt_of_cell? w7 _ zb1)).trans zb1) ((hb.cell (World.block_lt_of_cell? w7 _ zb2)).trans zb2)) (fun _ _ => rfl)) ?_
                refine And.intro (ob_call2 rfl Tryz.func70 (by kernel_rfl) (wt_none rfl) (ev_dep (j := 3) (by kernel_rfl) rfl rfl) (ev_dep (j := 7) (by kernel_rfl) rfl rfl) (fun w2 u0 u1 hb h0 h1 => by obtain rfl := h0; obtain rfl := h1; exact (mul8_any _ K _ y _ (k1.drew.below hb) (zb.drew.below hb) (lK.mono (by omega)) (ly.mono (by omega))).mono fun e w3 h => RetQn.pd h.n)) ?_
                refine And.intro (ob_call2 rfl Tryz.func127 (by kernel_rfl) (wt_none rfl) (ev_dep (j := 2) (by kernel_rfl) rfl rfl) (ev_dep (j := 8) (by kernel_rfl) rfl rfl) (fun w2 u0 u1 hb h0 h1 => by obtain rfl := h0; exact (sub9_any _ x _ (K * y) _ (ke0.drew.below hb) h1 (lx.mono (by omega)) (lky.mono (by omega))).mono fun e w3 h => RetQ.pd h hb.size)) ?_
                refine And.intro (ob_indexAddr rfl (wt_none rfl) (ev_dep (j := 0) (by kernel_rfl) rfl rfl) (ev_dep (j := 1) (by kernel_rfl) rfl rfl) (fun _ _ _ hx hy => ⟨_, by rw [hx, hy]; exact index3 (k := k) Tryz.underlying64 (by kernel_rfl) hlt _, rfl⟩)) ?_
                trivial
              case done9 =>
                refine fun w8 hb8 v0 h0 v1 h1 v2 h2 v3 h3 v4 h4 v5 h5 v6 h6 v7 h7 v8 h8 v9 h9 v10 h10 b hbf => ?_
                obtain rfl := h0; obtain rfl := h1; obtain rfl := h2; obtain rfl := h3; obtain rfl := h4; obtain rfl := h5; obtain rfl := h6; obtain rfl := h7; obtain rfl := h10
                have q8 := h8
                obtain ⟨q9, f9⟩ := h9
                simp only [Act.put, List.setIfInBounds_toArray, List.set_cons_zero, List.set_cons_succ] at hbf
                subst hbf
                replace B1 := B1.below hb8
                replace k1s := k1s.below hb8
                replace k1d := k1d.below hb8
                replace k1z := k1z.below hb8
                replace k1 := k1.below hb8
                replace Be0 := Be0.below hb8
                replace ke0s := ke0s.below hb8
                replace ke0d := ke0d.below hb8
                replace ke0z := ke0z.below hb8
                replace ke0 := ke0.below hb8
                replace RN := RN.below hb8
                replace bb := bb.trans (hb8.mono bb.size)
                have hsz8 := bb.size
                have s_9 := sB
                obtain ⟨u9, t9, rfl, q9, d9⟩ := q9
                obtain ⟨A9, c9, rfl, _⟩ := id q9
                obtain ⟨D9, e9, rfl, _⟩ := id d9
                refine any_store_q (j := 11) (by kernel_rfl) rfl rfl rfl rfl (g := g) (i := k) (q := (x - K * y)) rfl rfl (by kernel_rfl) RN hlt q9 d9 fun w9 hg9 hP9 => ?_
                replace k1s := RN.keep hg9 k1s
                replace k1d := RN.keep hg9 k1d
                replace k1z : IsZ w9 (.agg #[.bool (ngB (K).num), .slice A1 (digs 4294967296 (K).num.natAbs).length c1]) ((K).num) := ⟨_, rfl, k1s⟩
                replace k1 : IsQ w9 (.agg #[.bool (ngB (K).num), .slice A1 (digs 4294967296 (K).num.natAbs).length c1, .slice D1 (digs 4294967296 (K).den).length e1]) (K) := ⟨_, _, rfl, k1s, k1d⟩
                replace B1 := B1.grown hg9 (by omega)
                replace ke0s := RN.keep hg9 ke0s
                replace ke0d := RN.keep hg9 ke0d
                replace ke0z : IsZ w9 (.agg #[.bool (ngB (x).num), .slice Ae0 (digs 4294967296 (x).num.natAbs).length ce0]) ((x).num) := ⟨_, rfl, ke0s⟩
                replace ke0 : IsQ w9 (.agg #[.bool (ngB (x).num), .slice Ae0 (digs 4294967296 (x).num.natAbs).length ce0, .slice De0 (digs 4294967296 (x).den).length ee0]) (x) := ⟨_, _, rfl, ke0s, ke0d⟩
                replace Be0 := Be0.grown hg9 (by omega)
                replace bb := bb.trans ((Below.refl _ _).grown hg9 bb.size (fun g hg => by injection hg with hg; omega))
                have hsz9 := bb.size
                replace RN := hP9.1 HLK.out
                clear hP9
                refine any_done (by kernel_rfl) ?_
                rw [← HTK.out] at RN
                have hsk : p.length - (k + 1) < p.length - k := by omega
                go_wp2
                go_roundw
                case rel => exact ⟨k + 1, by omega, RN, B1, bb, by go_num⟩
                case measure => simp [intOf]; omega
      · rw [List.take_of_length_le (by rw [HRL.out]; omega)] at RN
        have HRN : Hid (RowN wr g (lessq p K q).length (lessq p K q)) := by
          show RowN _ _ _ _
          rw [HRL.out]; exact RN
        clear RN
        go_wp2
        go_ret2
        exact ⟨g, by rw [HRL.out]; rfl, HRN.out, hgw, bb⟩
set_option maxHeartbeats 3200000 in
set_option maxRecDepth 100000 in
theorem eqf_any (a0 a1 : Value) (p q : List Rat) (b : Bool) (w : World) (h0 : SlF .u64 4294967296 w a0 p) (h1 : SlF .u64 4294967296 w a1 q) (hb : b = decide (p = q)) :
  Calls Tryz.prog 90 #[a0, a1, .func (.func 29) #[] #[]] w (RetV (.bool b) w) := by
 have bb : Below w.heap.size w w := Below.refl _ _
 have sl0 := h0
 obtain ⟨A0, c0, rfl, hc0, hm0⟩ := h0.shape
 unfold maxLen at hm0
 have sl1 := h1
 obtain ⟨A1, c1, rfl, hc1, hm1⟩ := h1.shape
 unfold maxLen at hm1
 have HB := Lib.hid hb
 clear hb
 go_enter Tryz.func90, Tryz.ntmps90
 go_upto_region 1 with (fail)
 have hsz0 := bb.size
 by_cases he : p.length = q.length
 ·have HNE : Hid ((((p.length : Nat) : Int) != ((q.length : Nat) : Int)) = false) := by show _ = _; rw [bne_eq_false_iff_eq]; omega
  have HE := Lib.hid he
  clear he
  have sB := bb.size
  refine flowp 5 [Pd.eq (.slice A0 p.length c0), Pd.eq (.int .i64 ((p.length : Nat) : Int)), Pd.eq (.slice A1 q.length c1), Pd.eq (.int .i64 ((q.length : Nat) : Int)), Pd.eq (.bool false)] (by kernel_rfl) ?ob11 ?done11
  case ob11 =>
   refine And.intro (ob_move rfl (wt_none rfl) (ev_far rfl rfl) (fun _ _ h => h)) ?_
   refine And.intro (ob_len rfl (wt_none rfl) (ev_dep (j := 0) (by kernel_rfl) rfl rfl) (fun _ _ hx => ⟨_, by rw [hx]; exact len_slice Tryz.underlying64 _ _ _ _, rfl⟩)) ?_
   refine And.intro (ob_move rfl (wt_none rfl) (ev_far rfl rfl) (fun _ _ h => h)) ?_
   refine And.intro (ob_len rfl (wt_none rfl) (ev_dep (j := 2) (by kernel_rfl) rfl rfl) (fun _ _ hx => ⟨_, by rw [hx]; exact len_slice Tryz.underlying64 _ _ _ _, rfl⟩)) ?_
   refine And.intro (ob_bin rfl (wt_none rfl) (ev_dep (j := 1) (by kernel_rfl) rfl rfl) (ev_dep (j := 3) (by kernel_rfl) rfl rfl) (fun _ _ _ hx hy => ⟨.bool false, by rw [hx, hy, bin_neq_int, HNE.out], rfl⟩)) ?_
   trivial
  case done11 =>
   refine fun w2 hb2 v0 h0 v1 h1 v2 h2 v3 h3 v4 h4 b hbf => ?_
   obtain rfl := h0; obtain rfl := h1; obtain rfl := h2; obtain rfl := h3; obtain rfl := h4
   simp only [Act.put, List.setIfInBounds_toArray, List.set_cons_zero, List.set_cons_succ] at hbf
   subst hbf
   replace bb := bb.trans (hb2.mono bb.size)
   have hsz2 := bb.size
   refine ops_done ?_
   go_wp2
   go_loopw [17] (fun v17 wr => ∃ k : Nat, k ≤ p.length ∧ Hid (p.take k = q.take k) ∧ Below w.heap.size w wr ∧ v17 = .int .i64 (k : Int)) (fun v17 _ => p.length - (intOf v17).toNat)
   case atStart => exact ⟨0, by omega, rfl, bb, rfl⟩
   case round =>
    obtain ⟨k, hk, HA, hbw, rfl⟩ := hrel
    clear bb
    have bb := hbw
    clear hbw
    have hszr := bb.size
    by_cases hlt : k < p.length
    ·have hlt2 : k < q.length := by have := HE.out; omega
     have hneq : q ≠ [] := List.length_pos_iff.1 (by omega)
     obtain ⟨y, hy⟩ : ∃ y, q[k]? = some y := ⟨_, List.getElem?_eq_getElem hlt2⟩
     have HY := Lib.hid hy
     clear hy
     obtain ⟨x, hq0_⟩ : ∃ x, p[k]? = some x := ⟨_, List.getElem?_eq_getElem hlt⟩
     obtain ⟨g0_, o0_, ue0, te0, hA0_, _, e00, e01, e02, es0, ed0⟩ := (sl0.below bb).at_ hq0_
     subst hA0_
     have HQ0 := Lib.hid hq0_
     clear hq0_
     obtain ⟨Ae0, ce0, rfl, _⟩ := id es0
     obtain ⟨De0, ee0, rfl, _⟩ := id ed0
     have ke0 : IsQ wr (.agg #[.bool (ngB x.num), .slice Ae0 (digs 4294967296 x.num.natAbs).length ce0, .slice De0 (digs 4294967296 x.den).length ee0]) x := ⟨_, _, rfl, es0, ed0⟩
     have sB := bb.size
     go_upto_region 5 with (fail)
     refine flowp 5 [Pd.eq (.int .i64 (k : Int)), Pd.eq (.pointer (some ⟨g0_, o0_ + k * 3, none⟩)), Pd.eq (.agg #[.bool (ngB x.num), .slice Ae0 (digs 4294967296 x.num.natAbs).length ce0, .slice De0 (digs 4294967296 x.den).length ee0]), pn 44 #[.bool false, .slice none 0 0, .slice none 0 0] wr.heap.size, Pd.eq (.int .i64 (k : Int))] (by kernel_rfl) ?ob12 ?done12
     case ob12 =>
      refine And.intro (ob_move rfl (wt_none rfl) (ev_far rfl rfl) (fun _ _ h => h)) ?_
      refine And.intro (ob_indexAddr rfl (wt_none rfl) (ev_far rfl rfl) (ev_far rfl rfl) (fun _ _ _ hx hy => ⟨_, by rw [hx, hy]; exact index3 Tryz.underlying64 (by kernel_rfl) hlt _, rfl⟩)) ?_
      refine And.intro (ob_load rfl (wt_none rfl) (ev_dep (j := 1) (by kernel_rfl) rfl rfl) (fun w2 hb => load3 Tryz.underlying44 rfl (by kernel_rfl) ((hb.cell (World.block_lt_of_cell? wr _ e00)).trans e00) ((hb.cell (World.block_lt_of_cell? wr _ e01)).trans e01) ((hb.cell (World.block_lt_of_cell? wr _ e02)).trans e02)) (fun _ _ => rfl)) ?_
      refine And.intro (ob_alloc (z := .agg #[.bool false, .slice none 0 0, .slice none 0 0]) rfl rfl (fun _ => by kernel_rfl) (fun _ _ hB h => ⟨_, rfl, hB, h⟩)) ?_
      refine And.intro (ob_assign rfl (wt_none rfl) (ev_dep (j := 0) (by kernel_rfl) rfl rfl) (fun _ _ h => h)) ?_
      trivial
     case done12 =>
      refine fun w4 hb4 v0 h0 v1 h1 v2 h2 v3 h3 d3 v4 h4 b hbf => ?_
      obtain rfl := h0; obtain rfl := h1; obtain rfl := h2; obtain rfl := h4
      obtain ⟨g12_3, rfl, hg3, B3⟩ := h3
      simp only [Act.put, List.setIfInBounds_toArray, List.set_cons_zero, List.set_cons_succ] at hbf
      subst hbf
      replace es0 := es0.below hb4
      replace ed0 := ed0.below hb4
      replace bb := bb.trans (hb4.mono bb.size)
      have hsz4 := bb.size
      have BA8 := B3
      have q2 := es0
      have d2 := ed0
      refine ops_store (i := 5) rfl rfl rfl rfl rfl rfl (cells := [.bool (ngB (x).num), .slice Ae0 (digs 4294967296 (x).num.natAbs).length ce0, .slice De0 (digs 4294967296 (x).den).length ee0]) rfl BA8 rfl (by kernel_rfl) (one3 rfl rfl rfl) fun w5 hg5 BN5 => ?_
      replace q2 := off q2 BA8 no_ints3 hg5
      replace d2 := off d2 BA8 no_ints3 hg5
      replace bb := bb.trans ((Below.refl _ _).grown hg5 bb.size (fun g hg => by injection hg with hg; omega))
      have hsz5 := bb.size
      have Be0 : Blk w5 (g12_3) _ _ := BN5
      have ke0s := q2
      have ke0d := d2
      have ke0z : IsZ w5 (.agg #[.bool (ngB (x).num), .slice Ae0 (digs 4294967296 (x).num.natAbs).length ce0]) ((x).num) := ⟨_, rfl, ke0s⟩
      have ke0 : IsQ w5 (.agg #[.bool (ngB (x).num), .slice Ae0 (digs 4294967296 (x).num.natAbs).length ce0, .slice De0 (digs 4294967296 (x).den).length ee0]) (x) := ⟨_, _, rfl, ke0s, ke0d⟩
      refine ops_done ?_
      obtain ⟨g1_, o1_, cp1_, hA1_, _, _, _⟩ := sl1.place hneq
      injection hA1_ with e1_ _ e3_
      subst e1_
      subst e3_
      obtain ⟨uy, ty, hlty, zy0, zy1, zy2, zys, zyd⟩ := (sl1.below bb).at2 HY.out
      obtain ⟨Ay, cy, rfl, _⟩ := id zys
      obtain ⟨Dy, ey, rfl, _⟩ := id zyd
      have zy : IsQ w5 (.agg #[.bool (ngB (y).num), .slice Ay (digs 4294967296 (y).num.natAbs).length cy, .slice Dy (digs 4294967296 (y).den).length ey]) (y) := ⟨_, _, rfl, zys, zyd⟩
      have sB := bb.size
      go_upto_region 6 with (fail)
      have lt5_8 := Blk.lt Be0
      refine flowp 5 [Pd.eq (.slice (some ⟨g1_, o1_, none⟩) q.length c1), Pd.eq (.int .i64 (k : Int)), Pd.eq (.pointer (some ⟨g1_, o1_ + k * 3, none⟩)), Pd.eq (.agg #[.bool (ngB (y).num), .slice Ay (digs 4294967296 (y).num.natAbs).length cy, .slice Dy (digs 4294967296 (y).den).length ey]), pn 44 #[.bool false, .slice none 0 0, .slice none 0 0] w5.heap.size] (by kernel_rfl) ?ob13 ?done13
      case ob13 =>
       refine And.intro (ob_move rfl (wt_none rfl) (ev_far rfl rfl) (fun _ _ h => h)) ?_
       refine And.intro (ob_move rfl (wt_none rfl) (ev_far rfl rfl) (fun _ _ h => h)) ?_
       refine And.intro (ob_indexAddr rfl (wt_none rfl) (ev_dep (j := 0) (by kernel_rfl) rfl rfl) (ev_dep (j := 1) (by kernel_rfl) rfl rfl) (fun _ _ _ hx hy => ⟨_, by rw [hx, hy]; exact index3 (k := k) Tryz.underlying64 (by kernel_rfl) hlty _, rfl⟩)) ?_
       refine And.intro (ob_load rfl (wt_none rfl) (ev_dep (j := 2) (by kernel_rfl) rfl rfl) (fun w2 hb => load3 Tryz.underlying44 rfl (by kernel_rfl) ((hb.cell (World.block_lt_of_cell? w5 _ zy0)).trans zy0) ((hb.cell (World.block_lt_of_cell? w5 _ zy1)).trans zy1) ((hb.cell (World.block_lt_of_cell? w5 _ zy2)).trans zy2)) (fun _ _ => rfl)) ?_
       refine And.intro (ob_alloc (z := .agg #[.bool false, .slice none 0 0, .slice none 0 0]) rfl rfl (fun _ => by kernel_rfl) (fun _ _ hB h => ⟨_, rfl, hB, h⟩)) ?_
       trivial
      case done13 =>
       refine fun w6 hb6 v0 h0 v1 h1 v2 h2 v3 h3 v4 h4 d4 b hbf => ?_
       obtain rfl := h0; obtain rfl := h1; obtain rfl := h2; obtain rfl := h3
       obtain ⟨g13_4, rfl, hg4, B4⟩ := h4
       simp only [Act.put, List.setIfInBounds_toArray, List.set_cons_zero, List.set_cons_succ] at hbf
       subst hbf
       replace Be0 := Be0.below hb6
       replace ke0s := ke0s.below hb6
       replace ke0d := ke0d.below hb6
       replace ke0z := ke0z.below hb6
       replace ke0 := ke0.below hb6
       replace zys := zys.below hb6
       replace zyd := zyd.below hb6
       replace bb := bb.trans (hb6.mono bb.size)
       have hsz6 := bb.size
       have BA9 := B4
       have q3 := zys
       have d3 := zyd
       refine ops_store (i := 5) rfl rfl rfl rfl rfl rfl (cells := [.bool (ngB (y).num), .slice Ay (digs 4294967296 (y).num.natAbs).length cy, .slice Dy (digs 4294967296 (y).den).length ey]) rfl BA9 rfl (by kernel_rfl) (one3 rfl rfl rfl) fun w7 hg7 BN7 => ?_
       replace q3 := off q3 BA9 no_ints3 hg7
       replace d3 := off d3 BA9 no_ints3 hg7
       replace ke0s := off ke0s BA9 no_ints3 hg7
       replace ke0d := off ke0d BA9 no_ints3 hg7
       replace ke0z : IsZ w7 (.agg #[.bool (ngB (x).num), .slice Ae0 (digs 4294967296 (x).num.natAbs).length ce0]) ((x).num) := ⟨_, rfl, ke0s⟩
       replace ke0 : IsQ w7 (.agg #[.bool (ngB (x).num), .slice Ae0 (digs 4294967296 (x).num.natAbs).length ce0, .slice De0 (digs 4294967296 (x).den).length ee0]) (x) := ⟨_, _, rfl, ke0s, ke0d⟩
       replace Be0 := Be0.grown hg7 (by omega)
       replace bb := bb.trans ((Below.refl _ _).grown hg7 bb.size (fun g hg => by injection hg with hg; omega))
       have hsz7 := bb.size
       have By : Blk w7 (g13_4) _ _ := BN7
       have kys := q3
       have kyd := d3
       have kyz : IsZ w7 (.agg #[.bool (ngB (y).num), .slice Ay (digs 4294967296 (y).num.natAbs).length cy]) ((y).num) := ⟨_, rfl, kys⟩
       have ky : IsQ w7 (.agg #[.bool (ngB (y).num), .slice Ay (digs 4294967296 (y).num.natAbs).length cy, .slice Dy (digs 4294967296 (y).den).length ey]) (y) := ⟨_, _, rfl, kys, kyd⟩
       refine ops_done ?_
       obtain ⟨u, hu⟩ : ∃ u, u = decide (x = y) := ⟨_, rfl⟩
       have HU := Lib.hid hu
       by_cases hxy : x = y
       ·have HA2 : Hid (p.take (k + 1) = q.take (k + 1)) := by show _ = _; rw [take_snoc HQ0.out, take_snoc HY.out, HA.out, hxy]
        rw [decide_eq_true hxy] at hu
        subst hu
        clear hxy
        have sB := bb.size
        go_upto_region 7 with (fail)
        refine flowp 5 [Pd.eq (.func (.func 29) #[] #[]), Pd.eq (.agg #[.bool (ngB (x).num), .slice Ae0 (digs 4294967296 (x).num.natAbs).length ce0, .slice De0 (digs 4294967296 (x).den).length ee0]), Pd.eq (.agg #[.bool (ngB (y).num), .slice Ay (digs 4294967296 (y).num.natAbs).length cy, .slice Dy (digs 4294967296 (y).den).length ey]), Pd.eq (.bool true), Pd.eq (.bool false)] (by kernel_rfl) ?ob14 ?done14
        case ob14 =>
         refine And.intro (ob_move rfl (wt_none rfl) (ev_far rfl rfl) (fun _ _ h => h)) ?_
         refine And.intro (ob_load rfl (wt_none rfl) (ev_far rfl rfl) (fun w2 hb => run_loadAll Tryz.underlying44 rfl (by kernel_rfl) (Be0.below hb)) (fun _ _ => rfl)) ?_
         refine And.intro (ob_load rfl (wt_none rfl) (ev_far rfl rfl) (fun w2 hb => run_loadAll Tryz.underlying44 rfl (by kernel_rfl) (By.below hb)) (fun _ _ => rfl)) ?_
         refine And.intro (ob_callv2 rfl (ev_dep (j := 0) (by kernel_rfl) rfl rfl) Tryz.func29 (by kernel_rfl) (wt_none rfl) (ev_dep (j := 1) (by kernel_rfl) rfl rfl) (ev_dep (j := 2) (by kernel_rfl) rfl rfl) (fun w2 u0 u1 hb h0 h1 => by obtain rfl := h0; obtain rfl := h1; exact (same8_any _ _ x y true _ (ke0.below hb) (ky.below hb) HU.out).mono fun e w3 h => RetV.pd h)) ?_
         refine And.intro (ob_un rfl (wt_none rfl) (ev_dep (j := 3) (by kernel_rfl) rfl rfl) (fun _ => un_not _ _) (fun _ => rfl)) ?_
         trivial
        case done14 =>
         refine fun w9 hb9 v0 h0 v1 h1 v2 h2 v3 h3 v4 h4 b hbf => ?_
         obtain rfl := h0; obtain rfl := h1; obtain rfl := h2; obtain rfl := h3; obtain rfl := h4
         simp only [Act.put, List.setIfInBounds_toArray, List.set_cons_zero, List.set_cons_succ] at hbf
         subst hbf
         replace Be0 := Be0.below hb9
         replace ke0s := ke0s.below hb9
         replace ke0d := ke0d.below hb9
         replace ke0z := ke0z.below hb9
         replace ke0 := ke0.below hb9
         replace By := By.below hb9
         replace kys := kys.below hb9
         replace kyd := kyd.below hb9
         replace kyz := kyz.below hb9
         replace ky := ky.below hb9
         replace bb := bb.trans (hb9.mono bb.size)
         have hsz9 := bb.size
         refine ops_done ?_
         have hsk : p.length - (k + 1) < p.length - k := by omega
         go_wp2
         go_roundw
         case rel => exact ⟨k + 1, by omega, HA2, bb, by go_num⟩
         case measure => simp [intOf]; omega
       ·have HW : Hid (b = false) := by
         show _ = _
         rw [HB.out]
         refine decide_eq_false fun e => ?_
         have h0 := HQ0.out
         rw [e, HY.out] at h0
         exact hxy (Option.some.inj h0).symm
        rw [decide_eq_false hxy] at hu
        subst hu
        clear hxy
        have sB := bb.size
        go_upto_region 7 with (fail)
        refine flowp 5 [Pd.eq (.func (.func 29) #[] #[]), Pd.eq (.agg #[.bool (ngB (x).num), .slice Ae0 (digs 4294967296 (x).num.natAbs).length ce0, .slice De0 (digs 4294967296 (x).den).length ee0]), Pd.eq (.agg #[.bool (ngB (y).num), .slice Ay (digs 4294967296 (y).num.natAbs).length cy, .slice Dy (digs 4294967296 (y).den).length ey]), Pd.eq (.bool false), Pd.eq (.bool true)] (by kernel_rfl) ?ob15 ?done15
        case ob15 =>
         refine And.intro (ob_move rfl (wt_none rfl) (ev_far rfl rfl) (fun _ _ h => h)) ?_
         refine And.intro (ob_load rfl (wt_none rfl) (ev_far rfl rfl) (fun w2 hb => run_loadAll Tryz.underlying44 rfl (by kernel_rfl) (Be0.below hb)) (fun _ _ => rfl)) ?_
         refine And.intro (ob_load rfl (wt_none rfl) (ev_far rfl rfl) (fun w2 hb => run_loadAll Tryz.underlying44 rfl (by kernel_rfl) (By.below hb)) (fun _ _ => rfl)) ?_
         refine And.intro (ob_callv2 rfl (ev_dep (j := 0) (by kernel_rfl) rfl rfl) Tryz.func29 (by kernel_rfl) (wt_none rfl) (ev_dep (j := 1) (by kernel_rfl) rfl rfl) (ev_dep (j := 2) (by kernel_rfl) rfl rfl) (fun w2 u0 u1 hb h0 h1 => by obtain rfl := h0; obtain rfl := h1; exact (same8_any _ _ x y false _ (ke0.below hb) (ky.below hb) HU.out).mono fun e w3 h => RetV.pd h)) ?_
         refine And.intro (ob_un rfl (wt_none rfl) (ev_dep (j := 3) (by kernel_rfl) rfl rfl) (fun _ => un_not _ _) (fun _ => rfl)) ?_
         trivial
        case done15 =>
         refine fun w9 hb9 v0 h0 v1 h1 v2 h2 v3 h3 v4 h4 b hbf => ?_
         obtain rfl := h0; obtain rfl := h1; obtain rfl := h2; obtain rfl := h3; obtain rfl := h4
         simp only [Act.put, List.setIfInBounds_toArray, List.set_cons_zero, List.set_cons_succ] at hbf
         subst hbf
         replace Be0 := Be0.below hb9
         replace ke0s := ke0s.below hb9
         replace ke0d := ke0d.below hb9
         replace ke0z := ke0z.below hb9
         replace ke0 := ke0.below hb9
         replace By := By.below hb9
         replace kys := kys.below hb9
         replace kyd := kyd.below hb9
         replace kyz := kyz.below hb9
         replace ky := ky.below hb9
         replace bb := bb.trans (hb9.mono bb.size)
         have hsz9 := bb.size
         refine ops_done ?_
         go_wp2
         go_ret
         exact ⟨by rw [HW.out]; rfl, bb⟩
    ·have HW : Hid (b = true) := by
      show _ = _
      rw [HB.out]
      have := HA.out
      rw [List.take_of_length_le (by omega), List.take_of_length_le (by have := HE.out; omega)] at this
      exact decide_eq_true this
     go_wp2
     go_ret
     exact ⟨by rw [HW.out]; rfl, bb⟩
 ·have HNE : Hid ((((p.length : Nat) : Int) != ((q.length : Nat) : Int)) = true) := by show _ = _; rw [bne_iff_ne]; omega
  have HW : Hid (b = false) := by show _ = _; rw [HB.out]; exact decide_eq_false fun e => he (by rw [e])
  clear he
  have sB := bb.size
  refine flowp 5 [Pd.eq (.slice A0 p.length c0), Pd.eq (.int .i64 ((p.length : Nat) : Int)), Pd.eq (.slice A1 q.length c1), Pd.eq (.int .i64 ((q.length : Nat) : Int)), Pd.eq (.bool true)] (by kernel_rfl) ?ob10 ?done10
  case ob10 =>
   refine And.intro (ob_move rfl (wt_none rfl) (ev_far rfl rfl) (fun _ _ h => h)) ?_
   refine And.intro (ob_len rfl (wt_none rfl) (ev_dep (j := 0) (by kernel_rfl) rfl rfl) (fun _ _ hx => ⟨_, by rw [hx]; exact len_slice Tryz.underlying64 _ _ _ _, rfl⟩)) ?_
   refine And.intro (ob_move rfl (wt_none rfl) (ev_far rfl rfl) (fun _ _ h => h)) ?_
   refine And.intro (ob_len rfl (wt_none rfl) (ev_dep (j := 2) (by kernel_rfl) rfl rfl) (fun _ _ hx => ⟨_, by rw [hx]; exact len_slice Tryz.underlying64 _ _ _ _, rfl⟩)) ?_
   refine And.intro (ob_bin rfl (wt_none rfl) (ev_dep (j := 1) (by kernel_rfl) rfl rfl) (ev_dep (j := 3) (by kernel_rfl) rfl rfl) (fun _ _ _ hx hy => ⟨.bool true, by rw [hx, hy, bin_neq_int, HNE.out], rfl⟩)) ?_
   trivial
  case done10 =>
   refine fun w2 hb2 v0 h0 v1 h1 v2 h2 v3 h3 v4 h4 b hbf => ?_
   obtain rfl := h0; obtain rfl := h1; obtain rfl := h2; obtain rfl := h3; obtain rfl := h4
   simp only [Act.put, List.setIfInBounds_toArray, List.set_cons_zero, List.set_cons_succ] at hbf
   subst hbf
   replace bb := bb.trans (hb2.mono bb.size)
   have hsz2 := bb.size
   refine ops_done ?_
   go_wp2
   go_ret
   exact ⟨by rw [HW.out]; rfl, bb⟩
set_option maxHeartbeats 1600000 in
set_option maxRecDepth 100000 in
theorem fvsame_gen (a0 a1 : Value) (p q : List Rat) (b : Bool) (w : World) (h0 : SlF .u64 4294967296 w a0 p) (h1 : SlF .u64 4294967296 w a1 q) (hb : b = decide (p = q)) :
  Calls Tryz.prog 58 #[a0, a1] w (RetV (.bool b) w) := by
 have bb : Below w.heap.size w w := Below.refl _ _
 have sl0 := h0
 obtain ⟨A0, c0, rfl, hc0, hm0⟩ := h0.shape
 unfold maxLen at hm0
 have sl1 := h1
 obtain ⟨A1, c1, rfl, hc1, hm1⟩ := h1.shape
 unfold maxLen at hm1
 have HB := Lib.hid hb
 clear hb
 go_enter Tryz.func58, Tryz.ntmps58
 go_upto_region 1 with (fail)
 have hsz0 := bb.size
 have k0 := sl0.below bb
 have k1 := sl1.below bb
 have sB := bb.size
 refine flowp 4 [Pd.eq (.slice A0 p.length c0), Pd.eq (.slice A1 q.length c1), Pd.eq (.bool b), Pd.eq (.bool b)] (by kernel_rfl) ?ob16 ?done16
 case ob16 =>
  refine And.intro (ob_move rfl (wt_none rfl) (ev_far rfl rfl) (fun _ _ h => h)) ?_
  refine And.intro (ob_move rfl (wt_none rfl) (ev_far rfl rfl) (fun _ _ h => h)) ?_
  refine And.intro (ob_call3 rfl Tryz.func90 (by kernel_rfl) (wt_none rfl) (ev_dep (j := 0) (by kernel_rfl) rfl rfl) (ev_dep (j := 1) (by kernel_rfl) rfl rfl) (ev_func _) (fun w2 u0 u1 u2 hb h0 h1 h2 => by obtain rfl := h0; obtain rfl := h1; obtain rfl := h2; exact (eqf_any _ _ p q b _ (k0.below hb) (k1.below hb) HB.out).mono fun e w3 h => RetV.pd h)) ?_
  refine And.intro (ob_assign rfl (wt_none rfl) (ev_dep (j := 2) (by kernel_rfl) rfl rfl) (fun _ _ h => h)) ?_
  trivial
 case done16 =>
  refine fun w1 hb1 v0 h0 v1 h1 v2 h2 v3 h3 b hbf => ?_
  obtain rfl := h0; obtain rfl := h1; obtain rfl := h2; obtain rfl := h3
  simp only [Act.put, List.setIfInBounds_toArray, List.set_cons_zero, List.set_cons_succ] at hbf
  subst hbf
  replace bb := bb.trans (hb1.mono bb.size)
  have hsz1 := bb.size
  refine ops_done ?_
  go_wp2
  go_ret
  exact ⟨rfl, bb⟩
theorem wideq_at {t : List (List Rat)} {r : List Rat} (h : t[0]? = some r) : wideq t = r.length := by
  cases t with
  | nil => simp at h
  | cons s t =>
    obtain rfl : s = r := by simpa using h
    rfl
set_option maxHeartbeats 1600000 in
set_option maxRecDepth 100000 in
theorem msize_any (a0 : Value) (t : List (List Rat)) (w : World) (h0 : SlT .u64 4294967296 w a0 t) :
  Calls Tryz.prog 17 #[a0] w (RetV (.tuple #[.int .i64 ((t.length : Nat) : Int), .int .i64 ((wideq t : Nat) : Int)]) w) := by
 have bb : Below w.heap.size w w := Below.refl _ _
 have st0 := h0
 obtain ⟨A0, c0, rfl, hc0, hm0⟩ := h0.shape
 unfold maxLen at hm0
 go_enter Tryz.func17, Tryz.ntmps17
 go_upto_region 1 with (fail)
 have hsz0 := bb.size
 by_cases hn : t = []
 ·subst hn
  have HE : Hid ((((([] : List (List Rat)).length : Nat) : Int) == 0) = true) := rfl
  have sB := bb.size
  refine flowp 3 [Pd.eq (.slice A0 ([] : List (List Rat)).length c0), Pd.eq (.int .i64 ((([] : List (List Rat)).length : Nat) : Int)), Pd.eq (.bool true)] (by kernel_rfl) ?ob1 ?done1
  case ob1 =>
   refine And.intro (ob_move rfl (wt_none rfl) (ev_far rfl rfl) (fun _ _ h => h)) ?_
   refine And.intro (ob_len rfl (wt_none rfl) (ev_dep (j := 0) (by kernel_rfl) rfl rfl) (fun _ _ hx => ⟨_, by rw [hx]; exact len_slice Tryz.underlying22 _ _ _ _, rfl⟩)) ?_
   refine And.intro (ob_bin rfl (wt_none rfl) (ev_dep (j := 1) (by kernel_rfl) rfl rfl) (ev_const _) (fun _ _ _ hx hy => ⟨.bool true, by rw [hx, hy, bin_eql_int, HE.out], rfl⟩)) ?_
   trivial
  case done1 =>
   refine fun w12 hb12 v0 h0 v1 h1 v2 h2 b hbf => ?_
   obtain rfl := h0; obtain rfl := h1; obtain rfl := h2
   simp only [Act.put, List.setIfInBounds_toArray, List.set_cons_zero, List.set_cons_succ] at hbf
   subst hbf
   replace bb := bb.trans (hb12.mono bb.size)
   have hsz12 := bb.size
   refine ops_done ?_
   go_wp2
   go_ret2
   exact ⟨rfl, bb⟩
 ·have hl0 : 0 < t.length := List.length_pos_iff.2 hn
  obtain ⟨r, hr⟩ : ∃ r, t[0]? = some r := ⟨_, List.getElem?_eq_getElem hl0⟩
  have HE : Hid ((((t.length : Nat) : Int) == 0) = false) := by show _ = _; rw [beq_eq_false_iff_ne]; omega
  have HW : Hid (r.length = wideq t) := (wideq_at hr).symm
  obtain ⟨ad0, rfl⟩ := st0.place hn
  obtain ⟨Arr, crr, hir, ewr, srr⟩ := st0.at2 hr
  clear hr
  have sB := bb.size
  refine flowp 3 [Pd.eq (.slice (some ad0) t.length c0), Pd.eq (.int .i64 ((t.length : Nat) : Int)), Pd.eq (.bool false)] (by kernel_rfl) ?ob2 ?done2
  case ob2 =>
   refine And.intro (ob_move rfl (wt_none rfl) (ev_far rfl rfl) (fun _ _ h => h)) ?_
   refine And.intro (ob_len rfl (wt_none rfl) (ev_dep (j := 0) (by kernel_rfl) rfl rfl) (fun _ _ hx => ⟨_, by rw [hx]; exact len_slice Tryz.underlying22 _ _ _ _, rfl⟩)) ?_
   refine And.intro (ob_bin rfl (wt_none rfl) (ev_dep (j := 1) (by kernel_rfl) rfl rfl) (ev_const _) (fun _ _ _ hx hy => ⟨.bool false, by rw [hx, hy, bin_eql_int, HE.out], rfl⟩)) ?_
   trivial
  case done2 =>
   refine fun w12 hb12 v0 h0 v1 h1 v2 h2 b hbf => ?_
   obtain rfl := h0; obtain rfl := h1; obtain rfl := h2
   simp only [Act.put, List.setIfInBounds_toArray, List.set_cons_zero, List.set_cons_succ] at hbf
   subst hbf
   replace bb := bb.trans (hb12.mono bb.size)
   have hsz12 := bb.size
   refine ops_done ?_
   have ecr := (bb.cell (World.block_lt_of_cell? w _ ewr)).trans ewr
   have sB := bb.size
   go_upto_region 3 with (fail)
   refine flow 8 [Pd.eq (.slice (some ad0) t.length c0), Pd.eq (.int .i64 ((t.length : Nat) : Int)), Pd.eq (.slice (some ad0) t.length c0), Pd.eq (.pointer (some (ad0.add 0))), Pd.eq (.slice Arr r.length crr), Pd.eq (.int .i64 ((r.length : Nat) : Int)), Pd.eq (.int .i64 ((t.length : Nat) : Int)), Pd.eq (.int .i64 ((r.length : Nat) : Int))] (by kernel_rfl) (by kernel_rfl) ?ob3 ?done3
   case ob3 =>
    refine And.intro (ob_move rfl (wt_none rfl) (ev_far rfl rfl) (fun _ _ h => h)) ?_
    refine And.intro (ob_len rfl (wt_none rfl) (ev_dep (j := 0) (by kernel_rfl) rfl rfl) (fun _ _ hx => ⟨_, by rw [hx]; exact len_slice Tryz.underlying22 _ _ _ _, rfl⟩)) ?_
    refine And.intro (ob_move rfl (wt_none rfl) (ev_far rfl rfl) (fun _ _ h => h)) ?_
    refine And.intro (ob_indexAddr rfl (wt_none rfl) (ev_dep (j := 2) (by kernel_rfl) rfl rfl) (ev_const _) (fun _ _ _ hx hy => ⟨_, by rw [hx, hy]; exact index1_any (k := 0) Tryz.underlying22 (by kernel_rfl) ad0 hir _, rfl⟩)) ?_
    refine And.intro (ob_load rfl (wt_none rfl) (ev_dep (j := 3) (by kernel_rfl) rfl rfl) (fun w2 hb => run_load1 Tryz.underlying64 rfl ((hb.cell (World.block_lt_of_cell? w12 _ ecr)).trans ecr)) (fun _ _ => rfl)) ?_
    refine And.intro (ob_len rfl (wt_none rfl) (ev_dep (j := 4) (by kernel_rfl) rfl rfl) (fun _ _ hx => ⟨_, by rw [hx]; exact len_slice Tryz.underlying64 _ _ _ _, rfl⟩)) ?_
    refine And.intro (ob_assign rfl (wt_none rfl) (ev_dep (j := 1) (by kernel_rfl) rfl rfl) (fun _ _ h => h)) ?_
    refine And.intro (ob_assign rfl (wt_none rfl) (ev_dep (j := 5) (by kernel_rfl) rfl rfl) (fun _ _ h => h)) ?_
    trivial
   case done3 =>
    refine fun w13 hb13 v0 h0 v1 h1 v2 h2 v3 h3 v4 h4 v5 h5 v6 h6 v7 h7 b hbf => ?_
    obtain rfl := h0; obtain rfl := h1; obtain rfl := h2; obtain rfl := h3; obtain rfl := h4; obtain rfl := h5; obtain rfl := h6; obtain rfl := h7
    simp only [Act.put, List.setIfInBounds_toArray, List.set_cons_zero, List.set_cons_succ] at hbf
    subst hbf
    replace bb := bb.trans (hb13.mono bb.size)
    have hsz13 := bb.size
    refine any_done (by kernel_rfl) ?_
    go_wp2
    go_ret2
    exact ⟨by rw [HW.out]; rfl, bb⟩
set_option maxHeartbeats 1600000 in
set_option maxRecDepth 100000 in
theorem rwide_any (a0 : Value) (t : List (List Rat)) (w : World) (h0 : SlT .i64 10000 w a0 t) :
  Calls Tryz.prog 38 #[a0] w (RetV (.int .i64 ((wideq t : Nat) : Int)) w) := by
 have bb : Below w.heap.size w w := Below.refl _ _
 have st0 := h0
 obtain ⟨A0, c0, rfl, hc0, hm0⟩ := h0.shape
 unfold maxLen at hm0
 go_enter Tryz.func38, Tryz.ntmps38
 go_upto_region 1 with (fail)
 have hsz0 := bb.size
 by_cases hn : t = []
 ·subst hn
  have HE : Hid ((((([] : List (List Rat)).length : Nat) : Int) == 0) = true) := rfl
  have sB := bb.size
  refine flowp 3 [Pd.eq (.slice A0 ([] : List (List Rat)).length c0), Pd.eq (.int .i64 ((([] : List (List Rat)).length : Nat) : Int)), Pd.eq (.bool true)] (by kernel_rfl) ?ob4 ?done4
  case ob4 =>
   refine And.intro (ob_move rfl (wt_none rfl) (ev_far rfl rfl) (fun _ _ h => h)) ?_
   refine And.intro (ob_len rfl (wt_none rfl) (ev_dep (j := 0) (by kernel_rfl) rfl rfl) (fun _ _ hx => ⟨_, by rw [hx]; exact len_slice Tryz.underlying23 _ _ _ _, rfl⟩)) ?_
   refine And.intro (ob_bin rfl (wt_none rfl) (ev_dep (j := 1) (by kernel_rfl) rfl rfl) (ev_const _) (fun _ _ _ hx hy => ⟨.bool true, by rw [hx, hy, bin_eql_int, HE.out], rfl⟩)) ?_
   trivial
  case done4 =>
   refine fun w12 hb12 v0 h0 v1 h1 v2 h2 b hbf => ?_
   obtain rfl := h0; obtain rfl := h1; obtain rfl := h2
   simp only [Act.put, List.setIfInBounds_toArray, List.set_cons_zero, List.set_cons_succ] at hbf
   subst hbf
   replace bb := bb.trans (hb12.mono bb.size)
   have hsz12 := bb.size
   refine ops_done ?_
   go_wp2
   go_ret
   exact ⟨rfl, bb⟩
 ·have hl0 : 0 < t.length := List.length_pos_iff.2 hn
  obtain ⟨r, hr⟩ : ∃ r, t[0]? = some r := ⟨_, List.getElem?_eq_getElem hl0⟩
  have HE : Hid ((((t.length : Nat) : Int) == 0) = false) := by show _ = _; rw [beq_eq_false_iff_ne]; omega
  have HW : Hid (r.length = wideq t) := (wideq_at hr).symm
  obtain ⟨ad0, rfl⟩ := st0.place hn
  obtain ⟨Arr, crr, hir, ewr, srr⟩ := st0.at2 hr
  clear hr
  have sB := bb.size
  refine flowp 3 [Pd.eq (.slice (some ad0) t.length c0), Pd.eq (.int .i64 ((t.length : Nat) : Int)), Pd.eq (.bool false)] (by kernel_rfl) ?ob5 ?done5
  case ob5 =>
   refine And.intro (ob_move rfl (wt_none rfl) (ev_far rfl rfl) (fun _ _ h => h)) ?_
   refine And.intro (ob_len rfl (wt_none rfl) (ev_dep (j := 0) (by kernel_rfl) rfl rfl) (fun _ _ hx => ⟨_, by rw [hx]; exact len_slice Tryz.underlying23 _ _ _ _, rfl⟩)) ?_
   refine And.intro (ob_bin rfl (wt_none rfl) (ev_dep (j := 1) (by kernel_rfl) rfl rfl) (ev_const _) (fun _ _ _ hx hy => ⟨.bool false, by rw [hx, hy, bin_eql_int, HE.out], rfl⟩)) ?_
   trivial
  case done5 =>
   refine fun w12 hb12 v0 h0 v1 h1 v2 h2 b hbf => ?_
   obtain rfl := h0; obtain rfl := h1; obtain rfl := h2
   simp only [Act.put, List.setIfInBounds_toArray, List.set_cons_zero, List.set_cons_succ] at hbf
   subst hbf
   replace bb := bb.trans (hb12.mono bb.size)
   have hsz12 := bb.size
   refine ops_done ?_
   have ecr := (bb.cell (World.block_lt_of_cell? w _ ewr)).trans ewr
   have sB := bb.size
   go_upto_region 3 with (fail)
   refine flowp 5 [Pd.eq (.slice (some ad0) t.length c0), Pd.eq (.pointer (some (ad0.add 0))), Pd.eq (.slice Arr r.length crr), Pd.eq (.int .i64 ((r.length : Nat) : Int)), Pd.eq (.int .i64 ((r.length : Nat) : Int))] (by kernel_rfl) ?ob6 ?done6
   case ob6 =>
    refine And.intro (ob_move rfl (wt_none rfl) (ev_far rfl rfl) (fun _ _ h => h)) ?_
    refine And.intro (ob_indexAddr rfl (wt_none rfl) (ev_dep (j := 0) (by kernel_rfl) rfl rfl) (ev_const _) (fun _ _ _ hx hy => ⟨_, by rw [hx, hy]; exact index1_any (k := 0) Tryz.underlying23 (by kernel_rfl) ad0 hir _, rfl⟩)) ?_
    refine And.intro (ob_load rfl (wt_none rfl) (ev_dep (j := 1) (by kernel_rfl) rfl rfl) (fun w2 hb => run_load1 Tryz.underlying70 rfl ((hb.cell (World.block_lt_of_cell? w12 _ ecr)).trans ecr)) (fun _ _ => rfl)) ?_
    refine And.intro (ob_len rfl (wt_none rfl) (ev_dep (j := 2) (by kernel_rfl) rfl rfl) (fun _ _ hx => ⟨_, by rw [hx]; exact len_slice Tryz.underlying70 _ _ _ _, rfl⟩)) ?_
    refine And.intro (ob_assign rfl (wt_none rfl) (ev_dep (j := 3) (by kernel_rfl) rfl rfl) (fun _ _ h => h)) ?_
    trivial
   case done6 =>
    refine fun w13 hb13 v0 h0 v1 h1 v2 h2 v3 h3 v4 h4 b hbf => ?_
    obtain rfl := h0; obtain rfl := h1; obtain rfl := h2; obtain rfl := h3; obtain rfl := h4
    simp only [Act.put, List.setIfInBounds_toArray, List.set_cons_zero, List.set_cons_succ] at hbf
    subst hbf
    replace bb := bb.trans (hb13.mono bb.size)
    have hsz13 := bb.size
    refine ops_done ?_
    go_wp2
    go_ret
    exact ⟨by rw [HW.out]; rfl, bb⟩
set_option maxHeartbeats 3200000 in
set_option maxRecDepth 100000 in
theorem eqt_any (a0 a1 : Value) (p q : List (List Rat)) (b : Bool) (w : World) (h0 : SlT .u64 4294967296 w a0 p) (h1 : SlT .u64 4294967296 w a1 q) (hb : b = decide (p = q)) :
  Calls Tryz.prog 57 #[a0, a1, .func (.func 58) #[] #[]] w (RetV (.bool b) w) := by
 have bb : Below w.heap.size w w := Below.refl _ _
 have st0 := h0
 obtain ⟨A0, c0, rfl, hc0, hm0⟩ := h0.shape
 unfold maxLen at hm0
 have st1 := h1
 obtain ⟨A1, c1, rfl, hc1, hm1⟩ := h1.shape
 unfold maxLen at hm1
 have HB := Lib.hid hb
 clear hb
 go_enter Tryz.func57, Tryz.ntmps57
 go_upto_region 1 with (fail)
 have hsz0 := bb.size
 by_cases he : p.length = q.length
 ·have HNE : Hid ((((p.length : Nat) : Int) != ((q.length : Nat) : Int)) = false) := by show _ = _; rw [bne_eq_false_iff_eq]; omega
  have HE := Lib.hid he
  clear he
  have sB := bb.size
  refine flowp 5 [Pd.eq (.slice A0 p.length c0), Pd.eq (.int .i64 ((p.length : Nat) : Int)), Pd.eq (.slice A1 q.length c1), Pd.eq (.int .i64 ((q.length : Nat) : Int)), Pd.eq (.bool false)] (by kernel_rfl) ?ob15 ?done15
  case ob15 =>
   refine And.intro (ob_move rfl (wt_none rfl) (ev_far rfl rfl) (fun _ _ h => h)) ?_
   refine And.intro (ob_len rfl (wt_none rfl) (ev_dep (j := 0) (by kernel_rfl) rfl rfl) (fun _ _ hx => ⟨_, by rw [hx]; exact len_slice Tryz.underlying22 _ _ _ _, rfl⟩)) ?_
   refine And.intro (ob_move rfl (wt_none rfl) (ev_far rfl rfl) (fun _ _ h => h)) ?_
   refine And.intro (ob_len rfl (wt_none rfl) (ev_dep (j := 2) (by kernel_rfl) rfl rfl) (fun _ _ hx => ⟨_, by rw [hx]; exact len_slice Tryz.underlying22 _ _ _ _, rfl⟩)) ?_
   refine And.intro (ob_bin rfl (wt_none rfl) (ev_dep (j := 1) (by kernel_rfl) rfl rfl) (ev_dep (j := 3) (by kernel_rfl) rfl rfl) (fun _ _ _ hx hy => ⟨.bool false, by rw [hx, hy, bin_neq_int, HNE.out], rfl⟩)) ?_
   trivial
  case done15 =>
   refine fun w12 hb12 v0 h0 v1 h1 v2 h2 v3 h3 v4 h4 b hbf => ?_
   obtain rfl := h0; obtain rfl := h1; obtain rfl := h2; obtain rfl := h3; obtain rfl := h4
   simp only [Act.put, List.setIfInBounds_toArray, List.set_cons_zero, List.set_cons_succ] at hbf
   subst hbf
   replace bb := bb.trans (hb12.mono bb.size)
   have hsz12 := bb.size
   refine ops_done ?_
   go_wp2
   go_loopw [17] (fun v17 wr => ∃ k : Nat, k ≤ p.length ∧ Hid (p.take k = q.take k) ∧ Below w.heap.size w wr ∧ v17 = .int .i64 (k : Int)) (fun v17 _ => p.length - (intOf v17).toNat)
   case atStart => exact ⟨0, by omega, rfl, bb, rfl⟩
   case round =>
    obtain ⟨k, hk, HA, hbw, rfl⟩ := hrel
    clear bb
    have bb := hbw
    clear hbw
    have hszr := bb.size
    by_cases hlt : k < p.length
    ·have hlt2 : k < q.length := by have := HE.out; omega
     have hnp : p ≠ [] := List.length_pos_iff.1 (by omega)
     have hnq : q ≠ [] := List.length_pos_iff.1 (by omega)
     obtain ⟨x, hx⟩ : ∃ x, p[k]? = some x := ⟨_, List.getElem?_eq_getElem hlt⟩
     obtain ⟨y, hy⟩ : ∃ y, q[k]? = some y := ⟨_, List.getElem?_eq_getElem hlt2⟩
     have HX := Lib.hid hx
     have HY := Lib.hid hy
     obtain ⟨ad0, rfl⟩ := st0.place hnp
     obtain ⟨ad1, rfl⟩ := st1.place hnq
     obtain ⟨Arx, crx, hix, ewx, srx⟩ := st0.at2 hx
     obtain ⟨Ary, cry, hiy, ewy, sry⟩ := st1.at2 hy
     clear hx hy
     have ecx := (bb.cell (World.block_lt_of_cell? w _ ewx)).trans ewx
     have ecy := (bb.cell (World.block_lt_of_cell? w _ ewy)).trans ewy
     have sB := bb.size
     go_upto_region 5 with (fail)
     refine flowp 5 [Pd.eq (.int .i64 (k : Int)), Pd.eq (.pointer (some (ad0.add k))), Pd.eq (.slice Arx x.length crx), Pd.eq (.int .i64 (k : Int)), Pd.eq (.slice Arx x.length crx)] (by kernel_rfl) ?ob16 ?done16
     case ob16 =>
      refine And.intro (ob_move rfl (wt_none rfl) (ev_far rfl rfl) (fun _ _ h => h)) ?_
      refine And.intro (ob_indexAddr rfl (wt_none rfl) (ev_far rfl rfl) (ev_far rfl rfl) (fun _ _ _ hx hy => ⟨_, by rw [hx, hy]; exact index1_any (k := k) Tryz.underlying22 (by kernel_rfl) ad0 hlt _, rfl⟩)) ?_
      refine And.intro (ob_load rfl (wt_none rfl) (ev_dep (j := 1) (by kernel_rfl) rfl rfl) (fun w2 hb => run_load1 Tryz.underlying64 rfl ((hb.cell (World.block_lt_of_cell? wr _ ecx)).trans ecx)) (fun _ _ => rfl)) ?_
      refine And.intro (ob_assign rfl (wt_none rfl) (ev_dep (j := 0) (by kernel_rfl) rfl rfl) (fun _ _ h => h)) ?_
      refine And.intro (ob_assign rfl (wt_none rfl) (ev_dep (j := 2) (by kernel_rfl) rfl rfl) (fun _ _ h => h)) ?_
      trivial
     case done16 =>
      refine fun w14 hb14 v0 h0 v1 h1 v2 h2 v3 h3 v4 h4 b hbf => ?_
      obtain rfl := h0; obtain rfl := h1; obtain rfl := h2; obtain rfl := h3; obtain rfl := h4
      simp only [Act.put, List.setIfInBounds_toArray, List.set_cons_zero, List.set_cons_succ] at hbf
      subst hbf
      replace bb := bb.trans (hb14.mono bb.size)
      have hsz14 := bb.size
      refine ops_done ?_
      clear ecx ecy
      have ecy := (bb.cell (World.block_lt_of_cell? w _ ewy)).trans ewy
      have sB := bb.size
      go_upto_region 6 with (fail)
      refine flowp 5 [Pd.eq (.slice (some ad1) q.length c1), Pd.eq (.int .i64 (k : Int)), Pd.eq (.pointer (some (ad1.add k))), Pd.eq (.slice Ary y.length cry), Pd.eq (.slice Ary y.length cry)] (by kernel_rfl) ?ob17 ?done17
      case ob17 =>
       refine And.intro (ob_move rfl (wt_none rfl) (ev_far rfl rfl) (fun _ _ h => h)) ?_
       refine And.intro (ob_move rfl (wt_none rfl) (ev_far rfl rfl) (fun _ _ h => h)) ?_
       refine And.intro (ob_indexAddr rfl (wt_none rfl) (ev_dep (j := 0) (by kernel_rfl) rfl rfl) (ev_dep (j := 1) (by kernel_rfl) rfl rfl) (fun _ _ _ hx hy => ⟨_, by rw [hx, hy]; exact index1_any (k := k) Tryz.underlying22 (by kernel_rfl) ad1 hlt2 _, rfl⟩)) ?_
       refine And.intro (ob_load rfl (wt_none rfl) (ev_dep (j := 2) (by kernel_rfl) rfl rfl) (fun w2 hb => run_load1 Tryz.underlying64 rfl ((hb.cell (World.block_lt_of_cell? w14 _ ecy)).trans ecy)) (fun _ _ => rfl)) ?_
       refine And.intro (ob_assign rfl (wt_none rfl) (ev_dep (j := 3) (by kernel_rfl) rfl rfl) (fun _ _ h => h)) ?_
       trivial
      case done17 =>
       refine fun w15 hb15 v0 h0 v1 h1 v2 h2 v3 h3 v4 h4 b hbf => ?_
       obtain rfl := h0; obtain rfl := h1; obtain rfl := h2; obtain rfl := h3; obtain rfl := h4
       simp only [Act.put, List.setIfInBounds_toArray, List.set_cons_zero, List.set_cons_succ] at hbf
       subst hbf
       replace bb := bb.trans (hb15.mono bb.size)
       have hsz15 := bb.size
       refine ops_done ?_
       obtain ⟨u, hu⟩ : ∃ u, u = decide (x = y) := ⟨_, rfl⟩
       have HU := Lib.hid hu
       by_cases hxy : x = y
       ·have HA2 : Hid (p.take (k + 1) = q.take (k + 1)) := by show _ = _; rw [List.take_add_one, List.take_add_one, HX.out, HY.out, HA.out, hxy]
        rw [decide_eq_true hxy] at hu
        subst hu
        clear hxy
        have sB := bb.size
        go_upto_region 7 with (fail)
        refine flowp 5 [Pd.eq (.func (.func 58) #[] #[]), Pd.eq (.slice Arx x.length crx), Pd.eq (.slice Ary y.length cry), Pd.eq (.bool true), Pd.eq (.bool false)] (by kernel_rfl) ?ob18 ?done18
        case ob18 =>
         refine And.intro (ob_move rfl (wt_none rfl) (ev_far rfl rfl) (fun _ _ h => h)) ?_
         refine And.intro (ob_move rfl (wt_none rfl) (ev_far rfl rfl) (fun _ _ h => h)) ?_
         refine And.intro (ob_move rfl (wt_none rfl) (ev_far rfl rfl) (fun _ _ h => h)) ?_
         refine And.intro (ob_callv2 rfl (ev_dep (j := 0) (by kernel_rfl) rfl rfl) Tryz.func58 (by kernel_rfl) (wt_none rfl) (ev_dep (j := 1) (by kernel_rfl) rfl rfl) (ev_dep (j := 2) (by kernel_rfl) rfl rfl) (fun w2 u0 u1 hb h0 h1 => by obtain rfl := h0; obtain rfl := h1; exact (fvsame_gen _ _ x y true _ ((srx.below bb).below hb) ((sry.below bb).below hb) HU.out).mono fun e w3 h => RetV.pd h)) ?_
         refine And.intro (ob_un rfl (wt_none rfl) (ev_dep (j := 3) (by kernel_rfl) rfl rfl) (fun _ => un_not _ _) (fun _ => rfl)) ?_
         trivial
        case done18 =>
         refine fun w17 hb17 v0 h0 v1 h1 v2 h2 v3 h3 v4 h4 b hbf => ?_
         obtain rfl := h0; obtain rfl := h1; obtain rfl := h2; obtain rfl := h3; obtain rfl := h4
         simp only [Act.put, List.setIfInBounds_toArray, List.set_cons_zero, List.set_cons_succ] at hbf
         subst hbf
         replace bb := bb.trans (hb17.mono bb.size)
         have hsz17 := bb.size
         refine ops_done ?_
         have hsk : p.length - (k + 1) < p.length - k := by omega
         go_wp2
         go_roundw
         case rel => exact ⟨k + 1, by omega, HA2, bb, by go_num⟩
         case measure => simp [intOf]; omega
       ·have HW : Hid (b = false) := by
         show _ = _
         rw [HB.out]
         refine decide_eq_false fun e => ?_
         have h0 := HX.out
         rw [e, HY.out] at h0
         exact hxy (Option.some.inj h0).symm
        rw [decide_eq_false hxy] at hu
        subst hu
        clear hxy
        have sB := bb.size
        go_upto_region 7 with (fail)
        refine flowp 5 [Pd.eq (.func (.func 58) #[] #[]), Pd.eq (.slice Arx x.length crx), Pd.eq (.slice Ary y.length cry), Pd.eq (.bool false), Pd.eq (.bool true)] (by kernel_rfl) ?ob19 ?done19
        case ob19 =>
         refine And.intro (ob_move rfl (wt_none rfl) (ev_far rfl rfl) (fun _ _ h => h)) ?_
         refine And.intro (ob_move rfl (wt_none rfl) (ev_far rfl rfl) (fun _ _ h => h)) ?_
         refine And.intro (ob_move rfl (wt_none rfl) (ev_far rfl rfl) (fun _ _ h => h)) ?_
         refine And.intro (ob_callv2 rfl (ev_dep (j := 0) (by kernel_rfl) rfl rfl) Tryz.func58 (by kernel_rfl) (wt_none rfl) (ev_dep (j := 1) (by kernel_rfl) rfl rfl) (ev_dep (j := 2) (by kernel_rfl) rfl rfl) (fun w2 u0 u1 hb h0 h1 => by obtain rfl := h0; obtain rfl := h1; exact (fvsame_gen _ _ x y false _ ((srx.below bb).below hb) ((sry.below bb).below hb) HU.out).mono fun e w3 h => RetV.pd h)) ?_
         refine And.intro (ob_un rfl (wt_none rfl) (ev_dep (j := 3) (by kernel_rfl) rfl rfl) (fun _ => un_not _ _) (fun _ => rfl)) ?_
         trivial
        case done19 =>
         refine fun w17 hb17 v0 h0 v1 h1 v2 h2 v3 h3 v4 h4 b hbf => ?_
         obtain rfl := h0; obtain rfl := h1; obtain rfl := h2; obtain rfl := h3; obtain rfl := h4
         simp only [Act.put, List.setIfInBounds_toArray, List.set_cons_zero, List.set_cons_succ] at hbf
         subst hbf
         replace bb := bb.trans (hb17.mono bb.size)
         have hsz17 := bb.size
         refine ops_done ?_
         go_wp2
         go_ret
         exact ⟨by rw [HW.out]; rfl, bb⟩
    ·have HW : Hid (b = true) := by
      show _ = _
      rw [HB.out]
      have := HA.out
      rw [List.take_of_length_le (by omega), List.take_of_length_le (by have := HE.out; omega)] at this
      exact decide_eq_true this
     go_wp2
     go_ret
     exact ⟨by rw [HW.out]; rfl, bb⟩
 ·have HNE : Hid ((((p.length : Nat) : Int) != ((q.length : Nat) : Int)) = true) := by show _ = _; rw [bne_iff_ne]; omega
  have HW : Hid (b = false) := by show _ = _; rw [HB.out]; exact decide_eq_false fun e => he (by rw [e])
  clear he
  have sB := bb.size
  refine flowp 5 [Pd.eq (.slice A0 p.length c0), Pd.eq (.int .i64 ((p.length : Nat) : Int)), Pd.eq (.slice A1 q.length c1), Pd.eq (.int .i64 ((q.length : Nat) : Int)), Pd.eq (.bool true)] (by kernel_rfl) ?ob14 ?done14
  case ob14 =>
   refine And.intro (ob_move rfl (wt_none rfl) (ev_far rfl rfl) (fun _ _ h => h)) ?_
   refine And.intro (ob_len rfl (wt_none rfl) (ev_dep (j := 0) (by kernel_rfl) rfl rfl) (fun _ _ hx => ⟨_, by rw [hx]; exact len_slice Tryz.underlying22 _ _ _ _, rfl⟩)) ?_
   refine And.intro (ob_move rfl (wt_none rfl) (ev_far rfl rfl) (fun _ _ h => h)) ?_
   refine And.intro (ob_len rfl (wt_none rfl) (ev_dep (j := 2) (by kernel_rfl) rfl rfl) (fun _ _ hx => ⟨_, by rw [hx]; exact len_slice Tryz.underlying22 _ _ _ _, rfl⟩)) ?_
   refine And.intro (ob_bin rfl (wt_none rfl) (ev_dep (j := 1) (by kernel_rfl) rfl rfl) (ev_dep (j := 3) (by kernel_rfl) rfl rfl) (fun _ _ _ hx hy => ⟨.bool true, by rw [hx, hy, bin_neq_int, HNE.out], rfl⟩)) ?_
   trivial
  case done14 =>
   refine fun w12 hb12 v0 h0 v1 h1 v2 h2 v3 h3 v4 h4 b hbf => ?_
   obtain rfl := h0; obtain rfl := h1; obtain rfl := h2; obtain rfl := h3; obtain rfl := h4
   simp only [Act.put, List.setIfInBounds_toArray, List.set_cons_zero, List.set_cons_succ] at hbf
   subst hbf
   replace bb := bb.trans (hb12.mono bb.size)
   have hsz12 := bb.size
   refine ops_done ?_
   go_wp2
   go_ret
   exact ⟨by rw [HW.out]; rfl, bb⟩
set_option maxHeartbeats 1600000 in
set_option maxRecDepth 100000 in
theorem msame_any (a0 a1 : Value) (p q : List (List Rat)) (b : Bool) (w : World) (h0 : SlT .u64 4294967296 w a0 p) (h1 : SlT .u64 4294967296 w a1 q) (hb : b = decide (p = q)) :
  Calls Tryz.prog 24 #[a0, a1] w (RetV (.bool b) w) := by
 have bb : Below w.heap.size w w := Below.refl _ _
 have st0 := h0
 obtain ⟨A0, c0, rfl, hc0, hm0⟩ := h0.shape
 unfold maxLen at hm0
 have st1 := h1
 obtain ⟨A1, c1, rfl, hc1, hm1⟩ := h1.shape
 unfold maxLen at hm1
 have HB := Lib.hid hb
 clear hb
 go_enter Tryz.func24, Tryz.ntmps24
 go_upto_region 1 with (fail)
 have hsz0 := bb.size
 have sB := bb.size
 refine flowp 4 [Pd.eq (.slice A0 p.length c0), Pd.eq (.slice A1 q.length c1), Pd.eq (.bool b), Pd.eq (.bool b)] (by kernel_rfl) ?ob20 ?done20
 case ob20 =>
  refine And.intro (ob_move rfl (wt_none rfl) (ev_far rfl rfl) (fun _ _ h => h)) ?_
  refine And.intro (ob_move rfl (wt_none rfl) (ev_far rfl rfl) (fun _ _ h => h)) ?_
  refine And.intro (ob_call3 rfl Tryz.func57 (by kernel_rfl) (wt_none rfl) (ev_dep (j := 0) (by kernel_rfl) rfl rfl) (ev_dep (j := 1) (by kernel_rfl) rfl rfl) (ev_func _) (fun w2 u0 u1 u2 hb h0 h1 h2 => by obtain rfl := h0; obtain rfl := h1; obtain rfl := h2; exact (eqt_any _ _ p q b _ ((st0.below bb).below hb) ((st1.below bb).below hb) HB.out).mono fun e w3 h => RetV.pd h)) ?_
  refine And.intro (ob_assign rfl (wt_none rfl) (ev_dep (j := 2) (by kernel_rfl) rfl rfl) (fun _ _ h => h)) ?_
  trivial
 case done20 =>
  refine fun w11 hb11 v0 h0 v1 h1 v2 h2 v3 h3 b hbf => ?_
  obtain rfl := h0; obtain rfl := h1; obtain rfl := h2; obtain rfl := h3
  simp only [Act.put, List.setIfInBounds_toArray, List.set_cons_zero, List.set_cons_succ] at hbf
  subst hbf
  replace bb := bb.trans (hb11.mono bb.size)
  have hsz11 := bb.size
  refine ops_done ?_
  go_wp2
  go_ret
  exact ⟨rfl, bb⟩
set_option maxHeartbeats 1600000 in
set_option maxRecDepth 100000 in
theorem mayc_any (a0 : Value) (g n : Nat) (r : List Rat) (b : Bool) (w : World) (h0 : SlF .u64 4294967296 w a0 r) (hB : Blk w g 3 #[.int .i64 (n : Int)]) (hb : b = decide (r.length ≠ n)) :
  Calls Tryz.prog 76 #[a0, .pointer (some ⟨g, 0, none⟩)] w (RetV (.bool b) w) := by
 obtain ⟨A, c, rfl, _⟩ := h0.shape
 have c0 := hB.cell 0
 have HB : Hid ((((r.length : Nat) : Int) != (n : Int)) = b) := by
  show _ = _
  rw [hb]
  by_cases h : r.length = n
  ·rw [decide_eq_false (fun k => k h), h]; exact bne_self_eq_false _
  ·rw [decide_eq_true h, bne_iff_ne]; omega
 clear hb
 go_enter Tryz.func76, Tryz.ntmps76
 go_wp2
 go_ret
 exact ⟨by rw [← HB.out]; rfl, Below.refl _ _⟩
/-- A number that is below 0 just where b does not hold. -/
def RetIdx (b : Bool) (w : World) (e : Ending) (w' : World) : Prop := ∃ n : Int, e = .returned (.int .i64 n) ∧ decide (0 ≤ n) = b ∧ Below w.heap.size w w'
set_option maxHeartbeats 1600000 in
set_option maxRecDepth 100000 in
theorem mindex_any (a0 : Value) (g n : Nat) (t : List (List Rat)) (b : Bool) (w : World) (h0 : SlT .u64 4294967296 w a0 t) (hB : Blk w g 3 #[.int .i64 (n : Int)]) (hb : b = decide (∃ r ∈ t, r.length ≠ n)) :
  Calls Tryz.prog 108 #[a0, .func (.func 76) #[] #[.pointer (some ⟨g, 0, none⟩)]] w (RetIdx b w) := by
 have st0 := h0
 obtain ⟨A, c, rfl, hc, hm⟩ := h0.shape
 unfold maxLen at hm
 have HB := Lib.hid hb
 clear hb
 go_enter Tryz.func108, Tryz.ntmps108
 go_wp2
 go_loopw [8] (fun v8 wr => ∃ k : Nat, k ≤ t.length ∧ Hid (∀ r ∈ t.take k, r.length = n) ∧ Below w.heap.size w wr ∧ v8 = .int .i64 (k : Int)) (fun v8 _ => t.length - (intOf v8).toNat)
 case atStart => exact ⟨0, by omega, (by show ∀ r ∈ _, _; intro r hr; simp at hr), Below.refl _ _, rfl⟩
 case round =>
  obtain ⟨k, hk, HA, bb, rfl⟩ := hrel
  by_cases hlt : k < t.length
  ·have hnt : t ≠ [] := List.length_pos_iff.1 (by omega)
   obtain ⟨x, hx⟩ : ∃ x, t[k]? = some x := ⟨_, List.getElem?_eq_getElem hlt⟩
   have HX := Lib.hid hx
   obtain ⟨ad, rfl⟩ := st0.place hnt
   obtain ⟨Ar, cr, hi, ec, sr⟩ := (st0.below bb).at2 hx
   have hBr := hB.below bb
   clear hx
   obtain ⟨u, hu⟩ : ∃ u, u = decide (x.length ≠ n) := ⟨_, rfl⟩
   go_wp2_with fail
   refine (mayc_any _ g n x u _ sr hBr hu).mono ?_
   rintro e w2 ⟨rfl, b2⟩
   have bb2 := bb.trans (b2.mono bb.size)
   by_cases hxn : x.length = n
   ·obtain rfl : u = false := by rw [hu]; exact decide_eq_false fun k => k hxn
    have HA2 : Hid (∀ r ∈ t.take (k + 1), r.length = n) := by
     show ∀ r ∈ _, _
     intro r hr
     rw [List.take_add_one, HX.out] at hr
     rcases List.mem_append.1 hr with hr | hr
     ·exact HA.out r hr
     ·obtain rfl : r = x := by simpa using hr
      exact hxn
    have hsk : t.length - (k + 1) < t.length - k := by omega
    clear hu ec sr hBr
    go_wp2
    go_roundw
    case rel => exact ⟨k + 1, by omega, HA2, bb2, by go_num⟩
    case measure => simp [intOf]; omega
   ·obtain rfl : u = true := by rw [hu]; exact decide_eq_true hxn
    have HW : Hid (b = true) := by
     show _ = _
     rw [HB.out]
     exact decide_eq_true ⟨x, List.mem_of_getElem? HX.out, hxn⟩
    clear hu ec sr hBr
    go_wp2
    go_ret
    exact ⟨(k : Int), rfl, by rw [HW.out]; exact decide_eq_true (by omega), bb2⟩
  ·have HW : Hid (b = false) := by
    show _ = _
    rw [HB.out]
    refine decide_eq_false fun h => ?_
    obtain ⟨r, hr, hn⟩ := h
    have h1 := HA.out
    rw [List.take_of_length_le (by omega)] at h1
    exact hn (h1 r hr)
   go_wp2
   go_ret
   exact ⟨-1, rfl, by rw [HW.out]; rfl, bb⟩
set_option maxHeartbeats 1600000 in
set_option maxRecDepth 100000 in
theorem mcontains_any (a0 : Value) (g n : Nat) (t : List (List Rat)) (b : Bool) (w : World) (h0 : SlT .u64 4294967296 w a0 t) (hB : Blk w g 3 #[.int .i64 (n : Int)]) (hb : b = decide (∃ r ∈ t, r.length ≠ n)) :
  Calls Tryz.prog 75 #[a0, .func (.func 76) #[] #[.pointer (some ⟨g, 0, none⟩)]] w (RetV (.bool b) w) := by
 have st0 := h0
 obtain ⟨A, c, rfl, hc, hm⟩ := h0.shape
 unfold maxLen at hm
 go_enter Tryz.func75, Tryz.ntmps75
 go_wp2_with fail
 refine (mindex_any _ g n t b _ st0 hB hb).mono ?_
 rintro e w2 ⟨m, rfl, hm2, b2⟩
 have HM := Lib.hid hm2
 clear hm2 hb
 go_wp2
 go_ret
 exact ⟨by rw [← HM.out]; rfl, b2⟩
set_option maxHeartbeats 1600000 in
set_option maxRecDepth 100000 in
theorem mmay_any (a0 : Value) (t : List (List Rat)) (b : Bool) (w : World) (h0 : SlT .u64 4294967296 w a0 t) (hb : b = decide (mayq t)) :
  Calls Tryz.prog 36 #[a0] w (RetV (.bool b) w) := by
 have st0 := h0
 obtain ⟨A, c, rfl, hc, hm⟩ := h0.shape
 unfold maxLen at hm
 have hwl : wideq t ≤ 9223372036854775807 := by
  by_cases hn : t = []
  ·rw [hn]; show 0 ≤ _; omega
  ·obtain ⟨r, hr⟩ : ∃ r, t[0]? = some r := ⟨_, List.getElem?_eq_getElem (List.length_pos_iff.2 hn)⟩
   obtain ⟨ad, Ar, cr, _, _, _, sr⟩ := st0.at_ hr
   obtain ⟨_, _, e, h1, h2⟩ := sr.shape
   unfold maxLen at h2
   rw [wideq_at hr]; omega
 have HB := Lib.hid hb
 clear hb
 go_enter Tryz.func36, Tryz.ntmps36
 go_wp2_with fail
 refine (msize_any _ t _ st0).mono ?_
 rintro e w2 ⟨rfl, b2⟩
 have st2 := st0.below b2
 go_upto_region 2 with (fail)
 have bn := Blk.new w2 3 #[.int .i64 ((wideq t : Nat) : Int)]
 have ba := below_alloc (w := w2) (Nat.le_refl _) (.cells #[.int .i64 ((wideq t : Nat) : Int)] 3)
 obtain ⟨g, hg⟩ : ∃ g, g = w2.heap.size := ⟨_, rfl⟩
 obtain ⟨w3, hw3⟩ : ∃ w3, w3 = w2.alloc (.cells #[.int .i64 ((wideq t : Nat) : Int)] 3) := ⟨_, rfl⟩
 rw [← hw3] at bn ba ⊢
 rw [← hg] at bn ⊢
 have bb : Below w.heap.size w w3 := b2.trans (ba.mono b2.size)
 have st3 := st0.below bb
 clear hw3 hg ba b2 st2
 have c0 := bn.cell 0
 have z0 := bn.frozen 0
 by_cases h1 : 200 < t.length
 ·have h1' : (200 : Int) < ((t.length : Nat) : Int) := by omega
  have HW : Hid (b = false) := by show _ = _; rw [HB.out]; exact decide_eq_false fun h => by have := h.1; omega
  go_wp2
  go_ret
  exact ⟨by rw [HW.out]; rfl, bb⟩
 ·have h1' : ¬ (200 : Int) < ((t.length : Nat) : Int) := by omega
  by_cases h2 : 200 < wideq t
  ·have h2' : (200 : Int) < ((wideq t : Nat) : Int) := by omega
   have HW : Hid (b = false) := by show _ = _; rw [HB.out]; exact decide_eq_false fun h => by have := h.2.1; omega
   go_wp2
   go_ret
   exact ⟨by rw [HW.out]; rfl, bb⟩
  ·have h2' : ¬ (200 : Int) < ((wideq t : Nat) : Int) := by omega
   obtain ⟨u, hu⟩ : ∃ u, u = decide (∃ r ∈ t, r.length ≠ wideq t) := ⟨_, rfl⟩
   have HW : Hid ((!u) = b) := by
    show _ = _
    rw [HB.out, hu]
    by_cases he : evenq t
    ·rw [decide_eq_true (show mayq t from ⟨by omega, by omega, he⟩), decide_eq_false fun h => by obtain ⟨r, hr, hn⟩ := h; exact hn (he r hr)]; rfl
    ·have e1 : decide (mayq t) = false := decide_eq_false fun h => he h.2.2
     have e2 : decide (∃ r ∈ t, r.length ≠ wideq t) = true := decide_eq_true (Classical.byContradiction fun h => he fun r hr => Classical.byContradiction fun hn => h ⟨r, hr, hn⟩)
     rw [e1, e2]; rfl
   have HU := Lib.hid hu
   clear hu
   go_wp2_with fail
   refine (mcontains_any _ g (wideq t) t u _ st3 bn HU.out).mono ?_
   rintro e w4 ⟨rfl, b4⟩
   have bb4 := bb.trans (b4.mono bb.size)
   clear c0 z0
   go_wp2
   go_ret
   exact ⟨by rw [← HW.out]; rfl, bb4⟩
set_option maxHeartbeats 1600000 in
set_option maxRecDepth 100000 in
theorem mcheck_any (a0 : Value) (t : List (List Rat)) (n : Int) (w : World) (h0 : SlT .u64 4294967296 w a0 t) (hn : n = if mayq t then 0 else 8) :
  Calls Tryz.prog 9 #[a0] w (RetV (.int .i64 n) w) := by
 have st0 := h0
 obtain ⟨A, c, rfl, hc, hm⟩ := h0.shape
 have HN := Lib.hid hn
 clear hn
 go_enter Tryz.func9, Tryz.ntmps9
 by_cases h : mayq t
 ·have HW : Hid (n = 0) := by show _ = _; rw [HN.out, if_pos h]
  go_wp2_with fail
  refine (mmay_any _ t true _ st0 (decide_eq_true h).symm).mono ?_
  rintro e w2 ⟨rfl, b2⟩
  go_wp2
  go_ret
  exact ⟨by rw [HW.out]; rfl, b2⟩
 ·have HW : Hid (n = 8) := by show _ = _; rw [HN.out, if_neg h]
  go_wp2_with fail
  refine (mmay_any _ t false _ st0 (decide_eq_false h).symm).mono ?_
  rintro e w2 ⟨rfl, b2⟩
  go_wp2
  go_ret
  exact ⟨by rw [HW.out]; rfl, b2⟩
section
variable {P : Program} {Q : Exit → Act → World → Prop} {ops : Array Oper} {L : List Oper} {Φ : List Pd} {w0 : World} {a0 : Act} {i : Nat} {o : Oper}
end
theorem info_vec : ∃ i, Tryz.prog.info? 64 = some i ∧ i.zero = some (.slice none 0 0) ∧ i.size = 1 ∧ i.bytes = 24 := info_parts (P := Tryz.prog) (e := 64) (z := .slice none 0 0) (size := 1) (bytes := 24) (by kernel_rfl)
theorem info_veq : ∃ i, Tryz.prog.info? 70 = some i ∧ i.zero = some (.slice none 0 0) ∧ i.size = 1 ∧ i.bytes = 24 := info_parts (P := Tryz.prog) (e := 70) (z := .slice none 0 0) (size := 1) (bytes := 24) (by kernel_rfl)
/-- A table of rows that have no places yet, made by the call. -/
def RetBar (n : Nat) (w : World) (e : Ending) (w' : World) : Prop := ∃ g, e = .returned (.slice (some ⟨g, 0, none⟩) n n) ∧ TabB w' g 64 (List.replicate n (.slice none 0 0)) ∧ w.heap.size ≤ g ∧ Below w.heap.size w w'
set_option maxHeartbeats 1600000 in
set_option maxRecDepth 100000 in
theorem mcopied_any (a0 : Value) (x : Rat) (w : World) (h0 : IsQ w a0 x) (hl : lenQ x 100000) :
  Calls Tryz.prog 118 #[a0] w (RetQ x w) := by
 obtain ⟨u0, t0, rfl, s0, r0⟩ := h0
 obtain ⟨A0, c0, rfl, _⟩ := id s0
 obtain ⟨D0, e0, rfl, _⟩ := id r0
 go_enter Tryz.func118, Tryz.ntmps118
 go_upto_region 1 with (fail)
 obtain ⟨wx, hwx, bb, B0, BR0, hsz⟩ := vars2 w 44 44 #[.bool (ngB (x).num), .slice A0 (digs 4294967296 (x).num.natAbs).length c0, .slice D0 (digs 4294967296 (x).den).length e0] #[.bool false, .slice none 0 0, .slice none 0 0]
 rw [hwx]
 clear hwx
 have k0s := s0.below bb
 have k0d := r0.below bb
 have k0z : IsZ wx (.agg #[.bool (ngB (x).num), .slice A0 (digs 4294967296 (x).num.natAbs).length c0]) (x).num := ⟨_, rfl, k0s⟩
 have k0 : IsQ wx (.agg #[.bool (ngB (x).num), .slice A0 (digs 4294967296 (x).num.natAbs).length c0, .slice D0 (digs 4294967296 (x).den).length e0]) (x) := ⟨_, _, rfl, k0s, k0d⟩
 have hsz0 := bb.size
 have sB := bb.size
 refine flow 12 [Pd.eq (.pointer (some ⟨w.heap.size, 0, none⟩)), Pd.eq (.pointer (some ⟨w.heap.size, 0, none⟩)), Pd.eq (.bool (ngB (x).num)), Pd.eq (.pointer (some ⟨w.heap.size, 0, none⟩)), Pd.eq (.pointer (some ⟨w.heap.size, 1, none⟩)), Pd.eq (.slice A0 (digs 4294967296 (x).num.natAbs).length c0), ps .u64 (digs 4294967296 (x).num.natAbs) wx.heap.size, pz ((x).num) wx.heap.size, Pd.eq (.pointer (some ⟨w.heap.size, 2, none⟩)), Pd.eq (.slice D0 (digs 4294967296 (x).den).length e0), ps .u64 (digs 4294967296 (x).den) wx.heap.size, pq (x) wx.heap.size] (by kernel_rfl) (by kernel_rfl) ?ob1 ?done1
 case ob1 =>
  refine And.intro (ob_fieldAddr rfl (wt_none rfl) (ev_far rfl rfl) (fun _ => by kernel_rfl) (fun _ => rfl)) ?_
  refine And.intro (ob_fieldAddr rfl (wt_none rfl) (ev_dep (j := 0) (by kernel_rfl) rfl rfl) (fun _ => by kernel_rfl) (fun _ => rfl)) ?_
  refine And.intro (ob_load rfl (wt_none rfl) (ev_dep (j := 1) (by kernel_rfl) rfl rfl) (fun w2 hb => run_load1 Tryz.underlying4 rfl ((B0.drew.below hb).cell 0)) (fun _ _ => rfl)) ?_
  refine And.intro (ob_fieldAddr rfl (wt_none rfl) (ev_far rfl rfl) (fun _ => by kernel_rfl) (fun _ => rfl)) ?_
  refine And.intro (ob_fieldAddr rfl (wt_none rfl) (ev_dep (j := 3) (by kernel_rfl) rfl rfl) (fun _ => by kernel_rfl) (fun _ => rfl)) ?_
  refine And.intro (ob_load rfl (wt_none rfl) (ev_dep (j := 4) (by kernel_rfl) rfl rfl) (fun w2 hb => run_load1 Tryz.underlying40 rfl ((B0.drew.below hb).cell 1)) (fun _ _ => rfl)) ?_
  refine And.intro (ob_call1 rfl Tryz.func93 (by kernel_rfl) (wt_none rfl) (ev_dep (j := 5) (by kernel_rfl) rfl rfl) (fun w2 u0 hb h0 => by obtain rfl := h0; exact (clone_any _ _ _ (k0s.drew.below hb) (Nat.le_trans hl.1 (by decide))).mono fun e w3 h => RetS.pd h hb.size)) ?_
  refine And.intro (ob_build2b rfl (wt_none rfl) (ev_dep (j := 2) (by kernel_rfl) rfl rfl) (ev_dep (j := 6) (by kernel_rfl) rfl rfl) (fun w2 u v hb hu hv => by obtain rfl := hu; obtain ⟨A7, c7, rfl, _⟩ := id hv.1; exact ⟨.agg #[.bool (ngB (x).num), .slice A7 (digs 4294967296 (x).num.natAbs).length c7], by kernel_rfl, ⟨_, rfl, hv.1⟩, freshZ_mk hv.2⟩)) ?_
  refine And.intro (ob_fieldAddr rfl (wt_none rfl) (ev_far rfl rfl) (fun _ => by kernel_rfl) (fun _ => rfl)) ?_
  refine And.intro (ob_load rfl (wt_none rfl) (ev_dep (j := 8) (by kernel_rfl) rfl rfl) (fun w2 hb => run_load1 Tryz.underlying40 rfl ((B0.drew.below hb).cell 2)) (fun _ _ => rfl)) ?_
  refine And.intro (ob_call1 rfl Tryz.func93 (by kernel_rfl) (wt_none rfl) (ev_dep (j := 9) (by kernel_rfl) rfl rfl) (fun w2 u0 hb h0 => by obtain rfl := h0; exact (clone_any _ _ _ (k0d.drew.below hb) (Nat.le_trans hl.2 (by decide))).mono fun e w3 h => RetS.pd h hb.size)) ?_
  refine And.intro (ob_build2b rfl (wt_none rfl) (ev_dep (j := 7) (by kernel_rfl) rfl rfl) (ev_dep (j := 10) (by kernel_rfl) rfl rfl) (fun w2 u v hb hu hv => by obtain ⟨u7, rfl, hu7⟩ := hu.1; obtain ⟨A7, c7, rfl, _⟩ := id hu7; obtain ⟨A8, c8, rfl, _⟩ := id hv.1; exact ⟨.agg #[.bool (ngB (x).num), .slice A7 (digs 4294967296 (x).num.natAbs).length c7, .slice A8 (digs 4294967296 (x).den).length c8], by kernel_rfl, ⟨⟨_, _, rfl, hu7, hv.1⟩, freshQ_mk (hu.2 _ _ rfl) hv.2⟩⟩)) ?_
  trivial
 case done1 =>
  refine fun w11 hb11 v0 h0 v1 h1 v2 h2 v3 h3 v4 h4 v5 h5 v6 h6 v7 h7 v8 h8 v9 h9 v10 h10 v11 h11 b hbf => ?_
  obtain rfl := h0; obtain rfl := h1; obtain rfl := h2; obtain rfl := h3; obtain rfl := h4; obtain rfl := h5; obtain rfl := h8; obtain rfl := h9
  obtain ⟨q6, f6⟩ := h6
  obtain ⟨q7, f7⟩ := h7
  obtain ⟨q10, f10⟩ := h10
  obtain ⟨q11, f11⟩ := h11
  simp only [Act.put, List.setIfInBounds_toArray, List.set_cons_zero, List.set_cons_succ] at hbf
  subst hbf
  replace B0 := B0.below hb11
  replace k0s := k0s.below hb11
  replace k0d := k0d.below hb11
  replace k0z := k0z.below hb11
  replace k0 := k0.below hb11
  replace BR0 := BR0.below hb11
  replace bb := bb.trans (hb11.mono bb.size)
  have hsz11 := bb.size
  have s_6 := sB
  have s_7 := sB
  have s_10 := sB
  have s_11 := sB
  obtain ⟨u11, t11, rfl, q11, d11⟩ := q11
  obtain ⟨A9, c9, rfl, _⟩ := id q11
  obtain ⟨D9, e9, rfl, _⟩ := id d11
  refine any_store (i := 12) (by kernel_rfl) rfl rfl rfl rfl rfl rfl (cells := [.bool (ngB (x).num), .slice A9 (digs 4294967296 (x).num.natAbs).length c9, .slice D9 (digs 4294967296 (x).den).length e9]) rfl BR0 rfl (by kernel_rfl) (one3 rfl rfl rfl) fun w9 hg9 B9 => ?_
  have k9 := off q11 BR0 no_ints3 hg9
  have d9 := off d11 BR0 no_ints3 hg9
  have f9 := f11.mono (show w.heap.size ≤ _ from s_11)
  have bb9 := bb.trans ((Below.refl _ _).grown hg9 bb.size (fun g hg => by injection hg with hg; omega))
  obtain ⟨C0, C1, C2, _, _, _⟩ := three B9
  refine any_done (by kernel_rfl) ?_
  go_wp2
  exact bodyPost_ret (v := .agg #[.bool (ngB (x).num), .slice A9 (digs 4294967296 (x).num.natAbs).length c9, .slice D9 (digs 4294967296 (x).den).length e9]) (by simp [results, Tryz.results118, go_sem, C0, C1, C2]) rfl ⟨_, rfl, ⟨_, _, rfl, k9, d9⟩, f9, bb9⟩
set_option maxHeartbeats 1600000 in
set_option maxRecDepth 100000 in
theorem mbare_any (n : Int) (d : Nat) (w : World) (hn : n = (d : Int)) (hd : d ≤ 1000000) :
  Calls Tryz.prog 52 #[.int .i64 n] w (RetBar d w) := by
 have bb : Below w.heap.size w w := Below.refl _ _
 subst hn
 go_enter Tryz.func52, Tryz.ntmps52
 go_upto_region 1 with (fail)
 have hsz0 := bb.size
 have sB := bb.size
 refine flowp 3 [Pd.eq (.int .i64 (d : Int)), pbar d 64 w.heap.size, pbar d 64 w.heap.size] (by kernel_rfl) ?ob2 ?done2
 case ob2 =>
  refine And.intro (ob_move rfl (wt_none rfl) (ev_far rfl rfl) (fun _ _ h => h)) ?_
  refine And.intro (ob_make_v d rfl rfl (ev_dep (j := 0) (by kernel_rfl) rfl rfl) (ev_dep (j := 0) (by kernel_rfl) rfl rfl) Tryz.underlying22 info_vec (by omega) (fun _ _ h => h)) ?_
  refine And.intro (ob_assign rfl (wt_none rfl) (ev_dep (j := 1) (by kernel_rfl) rfl rfl) (fun _ _ h => h)) ?_
  trivial
 case done2 =>
  refine fun w11 hb11 v0 h0 v1 h1 v2 h2 b hbf => ?_
  obtain rfl := h0
  have q1 := h1
  have q2 := h2
  simp only [Act.put, List.setIfInBounds_toArray, List.set_cons_zero, List.set_cons_succ] at hbf
  subst hbf
  replace bb := bb.trans (hb11.mono bb.size)
  have hsz11 := bb.size
  refine ops_done ?_
  obtain ⟨g, rfl, TB, hg⟩ := q2
  go_wp2
  go_ret
  exact ⟨g, rfl, TB, hg, bb⟩
set_option maxHeartbeats 3200000 in
set_option maxRecDepth 100000 in
theorem mdots_any (a0 a1 : Value) (t : List (List Rat)) (v : List Rat) (m n : Nat) (w : World) (h0 : SlT .u64 4294967296 w a0 t) (h1 : SlF .u64 4294967296 w a1 v) (he : ∀ r ∈ t, r.length = v.length) (hl : t.length ≤ 1000 ∧ v.length ≤ 1000 ∧ lenT t m ∧ (∀ y ∈ v, lenQ y n) ∧ (m + n + 1) * v.length + 1 ≤ 4800) :
  Calls Tryz.prog 61 #[a0, a1] w (RetSl (dotsq t v) w) := by
 have bb : Below w.heap.size w w := Below.refl _ _
 have sl1 := h1
 obtain ⟨A1, c1, rfl, hc1, hm1⟩ := h1.shape
 unfold maxLen at hm1
 have st0 := h0
 obtain ⟨A0, c0, rfl, hc0, hm0⟩ := h0.shape
 unfold maxLen at hm0
 have HL := Lib.hid hl
 have HE := Lib.hid he
 have ht2 : t.length ≤ 1000 := hl.1
 have HRL : Hid ((dotsq t v).length = t.length) := dotsq_len t v
 clear hl he
 go_enter Tryz.func61, Tryz.ntmps61
 go_upto_region 1 with (fail)
 have hsz0 := bb.size
 have sB := bb.size
 refine flowp 4 [Pd.eq (.slice A0 t.length c0), Pd.eq (.int .i64 ((t.length : Nat) : Int)), pro t.length [] w.heap.size, pro t.length [] w.heap.size] (by kernel_rfl) ?ob3 ?done3
 case ob3 =>
  refine And.intro (ob_move rfl (wt_none rfl) (ev_far rfl rfl) (fun _ _ h => h)) ?_
  refine And.intro (ob_len rfl (wt_none rfl) (ev_dep (j := 0) (by kernel_rfl) rfl rfl) (fun _ _ hx => ⟨_, by rw [hx]; exact len_slice Tryz.underlying22 _ _ _ _, rfl⟩)) ?_
  refine And.intro (ob_make_q t.length rfl rfl (ev_dep (j := 1) (by kernel_rfl) rfl rfl) (ev_dep (j := 1) (by kernel_rfl) rfl rfl) Tryz.underlying64 info_rat (by omega) (fun _ _ h => h)) ?_
  refine And.intro (ob_assign rfl (wt_none rfl) (ev_dep (j := 2) (by kernel_rfl) rfl rfl) (fun _ _ h => h)) ?_
  trivial
 case done3 =>
  refine fun w11 hb11 v0 h0 v1 h1 v2 h2 v3 h3 b hbf => ?_
  obtain rfl := h0; obtain rfl := h1
  have q2 := h2
  have q3 := h3
  simp only [Act.put, List.setIfInBounds_toArray, List.set_cons_zero, List.set_cons_succ] at hbf
  subst hbf
  replace bb := bb.trans (hb11.mono bb.size)
  have hsz11 := bb.size
  refine ops_done ?_
  obtain ⟨g, rfl, RN, hg⟩ := q3
  have hgw : w.heap.size ≤ g := by omega
  go_wp2
  go_loopw [13] (fun v13 wr => ∃ k : Nat, k ≤ t.length ∧ RowN wr g t.length ((dotsq t v).take k) ∧ Below w.heap.size w wr ∧ v13 = .int .i64 (k : Int)) (fun v13 _ => t.length - (intOf v13).toNat)
  case atStart => exact ⟨0, by omega, RN, bb, rfl⟩
  case round =>
   obtain ⟨k, hk, hR, hbw, rfl⟩ := hrel
   clear RN bb
   have RN := hR
   have bb := hbw
   clear hR hbw
   have hszr := bb.size
   have hgl := RN.lt
   by_cases hlt : k < t.length
   ·have hnt : t ≠ [] := List.length_pos_iff.1 (by omega)
    obtain ⟨x, hx⟩ : ∃ x, t[k]? = some x := ⟨_, List.getElem?_eq_getElem hlt⟩
    have hxm := List.mem_of_getElem? hx
    have HXE : Hid (x.length = v.length) := HE.out x hxm
    have HXB : Hid (x.length ≤ 1000 ∧ (∀ y ∈ x, lenQ y m) ∧ (∀ y ∈ v, lenQ y n) ∧ (m + n + 1) * x.length + 1 ≤ 4800) := ⟨by rw [HXE.out]; exact HL.out.2.1, HL.out.2.2.1 x hxm, HL.out.2.2.2.1, by rw [HXE.out]; exact HL.out.2.2.2.2⟩
    have HTK : Hid ((dotsq t v).take (k + 1) = (dotsq t v).take k ++ [dotq x v]) := take_snoc (dotsq_at hx)
    have HLK : Hid (k = ((dotsq t v).take k).length) := by show _ = _; rw [List.length_take, HRL.out]; omega
    obtain ⟨ad0, rfl⟩ := st0.place hnt
    obtain ⟨Arx, crx, hix, ewx, srx⟩ := st0.at2 hx
    clear hx hxm
    have ecx := (bb.cell (World.block_lt_of_cell? w _ ewx)).trans ewx
    have sB := bb.size
    go_upto_region 4 with (fail)
    refine flowp 5 [Pd.eq (.int .i64 (k : Int)), Pd.eq (.pointer (some (ad0.add k))), Pd.eq (.slice Arx x.length crx), Pd.eq (.int .i64 (k : Int)), Pd.eq (.slice Arx x.length crx)] (by kernel_rfl) ?ob4 ?done4
    case ob4 =>
     refine And.intro (ob_move rfl (wt_none rfl) (ev_far rfl rfl) (fun _ _ h => h)) ?_
     refine And.intro (ob_indexAddr rfl (wt_none rfl) (ev_far rfl rfl) (ev_far rfl rfl) (fun _ _ _ hx hy => ⟨_, by rw [hx, hy]; exact index1_any (k := k) Tryz.underlying22 (by kernel_rfl) ad0 hlt _, rfl⟩)) ?_
     refine And.intro (ob_load rfl (wt_none rfl) (ev_dep (j := 1) (by kernel_rfl) rfl rfl) (fun w2 hb => run_load1 Tryz.underlying64 rfl ((hb.cell (World.block_lt_of_cell? wr _ ecx)).trans ecx)) (fun _ _ => rfl)) ?_
     refine And.intro (ob_assign rfl (wt_none rfl) (ev_dep (j := 0) (by kernel_rfl) rfl rfl) (fun _ _ h => h)) ?_
     refine And.intro (ob_assign rfl (wt_none rfl) (ev_dep (j := 2) (by kernel_rfl) rfl rfl) (fun _ _ h => h)) ?_
     trivial
    case done4 =>
     refine fun w13 hb13 v0 h0 v1 h1 v2 h2 v3 h3 v4 h4 b hbf => ?_
     obtain rfl := h0; obtain rfl := h1; obtain rfl := h2; obtain rfl := h3; obtain rfl := h4
     simp only [Act.put, List.setIfInBounds_toArray, List.set_cons_zero, List.set_cons_succ] at hbf
     subst hbf
     replace RN := RN.below hb13
     replace bb := bb.trans (hb13.mono bb.size)
     have hsz13 := bb.size
     refine ops_done ?_
     clear ecx
     have sB := bb.size
     go_upto_region 5 with (fail)
     refine flowp 9 [Pd.eq (.slice (some ⟨g, 0, none⟩) t.length t.length), Pd.eq (.int .i64 (k : Int)), Pd.eq (.slice Arx x.length crx), Pd.eq (.slice A1 v.length c1), pqe ((dotq x v)) 0, pqe ((dotq x v)) 0, pqn ((dotq x v)), Pd.eq (.int .i64 0), Pd.eq (.pointer (some ⟨g, 0 + k * 3, none⟩))] (by kernel_rfl) ?ob5 ?done5
     case ob5 =>
      refine And.intro (ob_move rfl (wt_none rfl) (ev_far rfl rfl) (fun _ _ h => h)) ?_
      refine And.intro (ob_move rfl (wt_none rfl) (ev_far rfl rfl) (fun _ _ h => h)) ?_
      refine And.intro (ob_move rfl (wt_none rfl) (ev_far rfl rfl) (fun _ _ h => h)) ?_
      refine And.intro (ob_move rfl (wt_none rfl) (ev_far rfl rfl) (fun _ _ h => h)) ?_
      refine And.intro (ob_call2 rfl Tryz.func94 (by kernel_rfl) (wt_none rfl) (ev_dep (j := 2) (by kernel_rfl) rfl rfl) (ev_dep (j := 3) (by kernel_rfl) rfl rfl) (fun w2 u0 u1 hb h0 h1 => by obtain rfl := h0; obtain rfl := h1; exact (fdot_gen _ _ x v m n _ ((srx.below bb).below hb) ((sl1.below bb).below hb) HXE.out HXB.out).mono fun e w3 h => RetQE.pd h)) ?_
      refine And.intro (ob_move rfl (wt_none rfl) (ev_dep (j := 4) (by kernel_rfl) rfl rfl) (fun _ _ h => h)) ?_
      refine And.intro (ob_extract rfl (wt_none rfl) (ev_dep (j := 5) (by kernel_rfl) rfl rfl) (fun w2 u hu => by obtain ⟨v, rfl, q1⟩ := hu; exact ⟨v, rfl, q1⟩)) ?_
      refine And.intro (ob_extract rfl (wt_none rfl) (ev_dep (j := 5) (by kernel_rfl) rfl rfl) (fun w2 u hu => by obtain ⟨v, rfl, q1⟩ := hu; exact ⟨_, rfl, rfl⟩)) ?_
      refine And.intro (ob_indexAddr rfl (wt_none rfl) (ev_dep (j := 0) (by kernel_rfl) rfl rfl) (ev_dep (j := 1) (by kernel_rfl) rfl rfl) (fun _ _ _ hx hy => ⟨_, by rw [hx, hy]; exact index3 (k := k) Tryz.underlying64 (by kernel_rfl) hlt _, rfl⟩)) ?_
      trivial
     case done5 =>
      refine fun w14 hb14 v0 h0 v1 h1 v2 h2 v3 h3 v4 h4 v5 h5 v6 h6 v7 h7 v8 h8 b hbf => ?_
      obtain rfl := h0; obtain rfl := h1; obtain rfl := h2; obtain rfl := h3; obtain rfl := h7; obtain rfl := h8
      clear h4
      clear h5
      have q6 := h6
      simp only [Act.put, List.setIfInBounds_toArray, List.set_cons_zero, List.set_cons_succ] at hbf
      subst hbf
      replace RN := RN.below hb14
      replace bb := bb.trans (hb14.mono bb.size)
      have hsz14 := bb.size
      obtain ⟨u6, t6, rfl, q6, d6⟩ := q6
      obtain ⟨A9, c9, rfl, _⟩ := id q6
      obtain ⟨D9, e9, rfl, _⟩ := id d6
      refine ops_store_q (j := 9) rfl rfl rfl rfl (g := g) (i := k) (q := (dotq x v)) rfl rfl (by kernel_rfl) RN hlt q6 d6 fun w15 hg15 hP15 => ?_
      replace bb := bb.trans ((Below.refl _ _).grown hg15 bb.size (fun g hg => by injection hg with hg; omega))
      have hsz15 := bb.size
      replace RN := hP15.1 HLK.out
      clear hP15
      refine ops_done ?_
      rw [← HTK.out] at RN
      have hsk : t.length - (k + 1) < t.length - k := by omega
      go_wp2
      go_roundw
      case rel => exact ⟨k + 1, by omega, RN, bb, by go_num⟩
      case measure => simp [intOf]; omega
   ·rw [List.take_of_length_le (by rw [HRL.out]; omega)] at RN
    have hS := RN.sl HRL.out (by omega)
    clear RN
    go_wp2
    go_ret
    exact ⟨_, rfl, hS, bb⟩
end Go.Proofs.YtmpalajamfiiiaaGreat.rat
namespace Go.Proofs.YtmpalajamfiiiaaGreat.flow
open Go.RowKit Go.Proofs.YtmpalajamfiiiaaGreat.num Go.Proofs.YtmpalajamfiiiaaGreat.mem Go.Proofs.YtmpalajamfiiiaaGreat.whl Go.Proofs.YtmpalajamfiiiaaGreat.rat
set_option linter.unusedVariables false
section
variable {P : Program} {Q : Exit → Act → World → Prop} {ops : Array Oper} {o : Oper} {i : Nat}
theorem ops_append_q {rest : List Nat} {a : Act} {w : World} (s x : Operand) {t : TypeId} (ho : ops[i]? = some o) (hg : o.guard = none) (hop : o.op = .call { callee := .builtin .append, args := #[s, x], argTypes := #[t, t] })
  {base : Nat} {T : TypeId} (hT : P.underlying t = some (.slice T)) (hI : ∃ i, P.info? T = some i ∧ i.zero = some (.agg #[.bool false, .slice none 0 0, .slice none 0 0]) ∧ i.size = 3 ∧ i.bytes = 56) {v : Value} {p : Elt} {ps : List Elt} (hs : a.eval s = v) (hown : RowF T w base v ps) {ad : Addr} {c : Nat} (hx : a.eval x = .slice (some ad) 1 c)
  (h0 : w.cell? (ad.add 0) = some (.bool (ngB p.1.num))) (h1 : w.cell? (ad.add 1) = some p.2.1) (h2 : w.cell? (ad.add 2) = some p.2.2) (k1 : p.2.1.oneCell' = true) (k2 : p.2.2.oneCell' = true) (hlen : ps.length ≤ 1000000000) (hbase : base ≤ w.heap.size)
  (h : ∀ v' w' b, RowF T w' base v' (ps ++ [p]) → Below base w w' → Hid (Grew w w' v v') → a.put o.dst v' = b → wpOps P ops Q rest b w') : wpOps P ops Q (i :: rest) a w :=
 ops_one ho hg (wp_append_q s x hop hT hI hs hown hx h0 h1 h2 k1 k2 hlen hbase fun v' w' r b k => h v' w' _ r b k rfl)
end
end Go.Proofs.YtmpalajamfiiiaaGreat.flow
namespace Go.Proofs.YtmpalajamfiiiaaGreat.rat
open Go.RowKit Go.Proofs.YtmpalajamfiiiaaGreat.num Go.Proofs.YtmpalajamfiiiaaGreat.mem Go.Proofs.YtmpalajamfiiiaaGreat.nat Go.Proofs.YtmpalajamfiiiaaGreat.txt Go.Proofs.YtmpalajamfiiiaaGreat.str Go.Proofs.YtmpalajamfiiiaaGreat.flow Go.Proofs.YtmpalajamfiiiaaGreat.whl
set_option linter.unusedVariables false
theorem Grew.trans {w w1 w2 : World} {v v1 v2 : Value} (h : Grew w w1 v v1) (k : Grew w1 w2 v1 v2) : Grew w w2 v v2 := by
 obtain ⟨a1, a2, a3⟩ := h
 obtain ⟨b1, b2, b3⟩ := k
 refine ⟨fun q u l hu hf => ?_, ⟨b2.os.trans a2.os, b2.tape.trans a2.tape, b2.output.trans a2.output, Nat.le_trans a2.size b2.size, fun i hi hne => ?_⟩, fun g hg hne => b3 g (Nat.lt_of_lt_of_le hg a2.size) (a3 g hg hne)⟩
 ·have x := a1 q u l hu hf
  exact b1 q u l x.1 x.2
 ·rw [b2.block i (Nat.lt_of_lt_of_le hi a2.size) (fun e => a3 i hi (fun e2 => hne e2.symm) e.symm), a2.block i hi hne]
theorem Grew.of_below {w w1 : World} (v : Value) (h : Below w.heap.size w w1) : Grew w w1 v v :=
 ⟨fun q u l hu hf => ⟨hu.below h, hf⟩, ⟨h.os, h.tape, h.output, h.size, fun i hi _ => h.block i hi⟩, fun g _ hne => hne⟩
theorem NewL.far {B : Nat} {ps : List Elt} (h : NewL B ps) {v : Value} (hv : ∀ g, v.ownBlock = some g → g < B) : ∀ p ∈ ps, Far v p.2.1 ∧ Far v p.2.2 := fun p hp => ⟨(h p hp).1.far hv, (h p hp).2.far hv⟩
/-- The table itself stays where one of its rows grows. -/
theorem TabO.mid {k : IntKind} {B : Nat} {T : TypeId} {w w1 : World} {base g n c i : Nat} {TS : TypeId} {us : List Value} {pss : List (List Elt)} {u u' : Value} {ps : List Elt} (hT : T ≠ TS) (h : TabO k B T w base TS (.slice (some ⟨g, 0, none⟩) n c) us pss) (hu : us[i]? = some u) (hps : pss[i]? = some ps) (hgr : Grew w w1 u u') : RowV w1 base TS (.slice (some ⟨g, 0, none⟩) n c) us :=
 World.ownsRow.kept (row := u.ownBlock) h.row hgr.2.1 (.inr fun e => (h.own i u ps hu hps).notRow h.row hT g e.symm rfl)
/-- What the call's own row has become: others behind it, in new memory. -/
def RetApp (T : TypeId) (base : Nat) (a0 : Value) (ps : List Elt) (r : List Rat) (w : World) (e : Ending) (w' : World) : Prop := ∃ u new, e = .returned u ∧ RowF T w' base u (ps ++ new) ∧ new.map (·.1) = r ∧ Grew w w' a0 u ∧ FarF .u64 4294967296 w' u new ∧ NewL w.heap.size new ∧ Below base w w'
set_option linter.unusedSimpArgs false
set_option maxHeartbeats 3200000 in
set_option maxRecDepth 100000 in
theorem mappended_any (a0 a1 : Value) (ps : List Elt) (r : List Rat) (w W : World) (h0 : RowF 44 W w.heap.size a0 ps) (h1 : SlF .u64 4294967296 w a1 r) (hb : Below w.heap.size w W) (hl : ps.length ≤ 1000 ∧ r.length ≤ 1000 ∧ ∀ x ∈ r, lenQ x 100000) :
  Calls Tryz.prog 88 #[a0, a1] W (RetApp 44 w.heap.size a0 ps r W) := by
 have bb : Below w.heap.size w w := Below.refl _ _
 have sl1 := h1
 obtain ⟨A1, c1, rfl, hc1, hm1⟩ := h1.shape
 unfold maxLen at hm1
 have r0 := h0
 obtain ⟨A0, c0, rfl, hc0, hm0, _⟩ := h0.isVF
 have hbase : w.heap.size ≤ W.heap.size := hb.size
 have hbl := h0.base_le
 have HL := Lib.hid hl
 have hps : ps.length ≤ 1000 := hl.1
 have hr2 : r.length ≤ 1000 := hl.2.1
 clear bb hl h0
 have bb : Below w.heap.size w W := hb
 have bW : Below W.heap.size W W := Below.refl _ _
 go_enter Tryz.func88, Tryz.ntmps88
 go_upto_region 1 with (fail)
 have hsz0 := bb.size
 have sB := bb.size
 refine flowp 3 [Pd.eq (.slice A1 r.length c1), Pd.eq (.int .i64 ((r.length : Nat) : Int)), Pd.eq (.int .i64 0)] (by kernel_rfl) ?ob1 ?done1
 case ob1 =>
  refine And.intro (ob_move rfl (wt_none rfl) (ev_far rfl rfl) (fun _ _ h => h)) ?_
  refine And.intro (ob_len rfl (wt_none rfl) (ev_dep (j := 0) (by kernel_rfl) rfl rfl) (fun _ _ hx => ⟨_, by rw [hx]; exact len_slice Tryz.underlying64 _ _ _ _, rfl⟩)) ?_
  refine And.intro (ob_move rfl (wt_none rfl) (ev_const _) (fun _ _ h => h)) ?_
  trivial
 case done1 =>
  refine fun w11 hb11 v0 h0 v1 h1 v2 h2 b hbf => ?_
  obtain rfl := h0; obtain rfl := h1; obtain rfl := h2
  simp only [Act.put, List.setIfInBounds_toArray, List.set_cons_zero, List.set_cons_succ] at hbf
  subst hbf
  replace bb := bb.trans (hb11.mono bb.size)
  have hsz11 := bb.size
  replace bW := bW.trans (hb11.mono bW.size)
  refine ops_done ?_
  go_wp2
  go_loopw [0, 9] (fun v0 v9 wr => ∃ (k : Nat) (new : List Elt), k ≤ r.length ∧ RowF 44 wr w.heap.size v0 (ps ++ new) ∧ Hid (new.map (·.1) = r.take k) ∧ Hid (Grew W wr (.slice A0 ps.length c0) v0) ∧ FarF .u64 4294967296 wr v0 new ∧ NewL W.heap.size new ∧ Below w.heap.size w wr ∧ v9 = .int .i64 (k : Int)) (fun _ v9 _ => r.length - (intOf v9).toNat)
  case atStart => exact ⟨0, [], by omega, by rw [List.append_nil]; exact r0.below bW, rfl, Grew.of_below _ bW, FarF.nil _ _ _ _, NewL.nil _, bb, rfl⟩
  case round =>
   obtain ⟨k, new, hk, hR, HM, HG, hF, hN, hbw, rfl⟩ := hrel
   clear bb bW
   have bb := hbw
   clear hbw
   have hszr := bb.size
   have hsW : W.heap.size ≤ wr.heap.size := HG.out.2.1.size
   by_cases hlt : k < r.length
   ·have bl : Below wr.heap.size wr wr := Below.refl _ _
    obtain ⟨AR, cR, hAR, _⟩ := hR.isVF
    subst hAR
    obtain ⟨x, hq1_⟩ : ∃ x, r[k]? = some x := ⟨_, List.getElem?_eq_getElem hlt⟩
    obtain ⟨g1_, o1_, ue1, te1, hA1_, _, e10, e11, e12, es1, ed1⟩ := (sl1.below bb).at_ hq1_
    subst hA1_
    have HQ1 := Lib.hid hq1_
    clear hq1_
    obtain ⟨Ae1, ce1, rfl, _⟩ := id es1
    obtain ⟨De1, ee1, rfl, _⟩ := id ed1
    have ke1 : IsQ wr (.agg #[.bool (ngB x.num), .slice Ae1 (digs 4294967296 x.num.natAbs).length ce1, .slice De1 (digs 4294967296 x.den).length ee1]) x := ⟨_, _, rfl, es1, ed1⟩
    have lx : lenQ x 100000 := HL.out.2.2 x (List.mem_of_getElem? HQ1.out)
    have HNL : Hid (new.length = k) := by
     have h := congrArg List.length HM.out
     rw [List.length_map, List.length_take] at h
     show _ = _
     omega
    have sB := bb.size
    go_upto_region 3 with (fail)
    refine flowp 3 [Pd.eq (.pointer (some ⟨g1_, o1_ + k * 3, none⟩)), Pd.eq (.agg #[.bool (ngB x.num), .slice Ae1 (digs 4294967296 x.num.natAbs).length ce1, .slice De1 (digs 4294967296 x.den).length ee1]), pn 44 #[.bool false, .slice none 0 0, .slice none 0 0] wr.heap.size] (by kernel_rfl) ?ob2 ?done2
    case ob2 =>
     refine And.intro (ob_indexAddr rfl (wt_none rfl) (ev_far rfl rfl) (ev_far rfl rfl) (fun _ _ _ hx hy => ⟨_, by rw [hx, hy]; exact index3 Tryz.underlying64 (by kernel_rfl) hlt _, rfl⟩)) ?_
     refine And.intro (ob_load rfl (wt_none rfl) (ev_dep (j := 0) (by kernel_rfl) rfl rfl) (fun w2 hb => load3 Tryz.underlying44 rfl (by kernel_rfl) ((hb.cell (World.block_lt_of_cell? wr _ e10)).trans e10) ((hb.cell (World.block_lt_of_cell? wr _ e11)).trans e11) ((hb.cell (World.block_lt_of_cell? wr _ e12)).trans e12)) (fun _ _ => rfl)) ?_
     refine And.intro (ob_alloc (z := .agg #[.bool false, .slice none 0 0, .slice none 0 0]) rfl rfl (fun _ => by kernel_rfl) (fun _ _ hB h => ⟨_, rfl, hB, h⟩)) ?_
     trivial
    case done2 =>
     refine fun w13 hb13 v0 h0 v1 h1 v2 h2 d2 b hbf => ?_
     obtain rfl := h0; obtain rfl := h1
     obtain ⟨g2_2, rfl, hg2, B2⟩ := h2
     simp only [Act.put, List.setIfInBounds_toArray, List.set_cons_zero, List.set_cons_succ] at hbf
     subst hbf
     replace es1 := es1.below hb13
     replace ed1 := ed1.below hb13
     replace bb := bb.trans (hb13.mono bb.size)
     have hsz13 := bb.size
     replace bl := bl.trans (hb13.mono bl.size)
     have BA6 := B2
     have q1 := es1
     have d1 := ed1
     refine ops_store (i := 3) rfl rfl rfl rfl rfl rfl (cells := [.bool (ngB (x).num), .slice Ae1 (digs 4294967296 (x).num.natAbs).length ce1, .slice De1 (digs 4294967296 (x).den).length ee1]) rfl BA6 rfl (by kernel_rfl) (one3 rfl rfl rfl) fun w14 hg14 BN14 => ?_
     replace q1 := off q1 BA6 no_ints3 hg14
     replace d1 := off d1 BA6 no_ints3 hg14
     replace bb := bb.trans ((Below.refl _ _).grown hg14 bb.size (fun g hg => by injection hg with hg; omega))
     have hsz14 := bb.size
     have Be1 : Blk w14 (g2_2) _ _ := BN14
     have ke1s := q1
     have ke1d := d1
     have ke1z : IsZ w14 (.agg #[.bool (ngB (x).num), .slice Ae1 (digs 4294967296 (x).num.natAbs).length ce1]) ((x).num) := ⟨_, rfl, ke1s⟩
     have ke1 : IsQ w14 (.agg #[.bool (ngB (x).num), .slice Ae1 (digs 4294967296 (x).num.natAbs).length ce1, .slice De1 (digs 4294967296 (x).den).length ee1]) (x) := ⟨_, _, rfl, ke1s, ke1d⟩
     refine ops_done ?_
     replace bl := bl.trans ((Below.refl _ _).grown hg14 bl.size (fun g hg => by injection hg with hg; omega))
     have nR := (hR.below bl).under
     have hsl := bl.size
     have sB := bb.size
     go_upto_region 4 with (fail)
     refine flowp 4 [Pd.eq (.slice AR (ps ++ new).length cR), Pd.eq (.agg #[.bool (ngB (x).num), .slice Ae1 (digs 4294967296 (x).num.natAbs).length ce1, .slice De1 (digs 4294967296 (x).den).length ee1]), pq (x) w14.heap.size, pone (pq (x) w14.heap.size)] (by kernel_rfl) ?ob3 ?done3
     case ob3 =>
      refine And.intro (ob_move rfl (wt_none rfl) (ev_far rfl rfl) (fun _ _ h => h)) ?_
      refine And.intro (ob_load rfl (wt_none rfl) (ev_far rfl rfl) (fun w2 hb => run_loadAll Tryz.underlying44 rfl (by kernel_rfl) (Be1.below hb)) (fun _ _ => rfl)) ?_
      refine And.intro (ob_call1 rfl Tryz.func118 (by kernel_rfl) (wt_none rfl) (ev_dep (j := 1) (by kernel_rfl) rfl rfl) (fun w2 u0 hb h0 => by obtain rfl := h0; exact (mcopied_any _ x _ (ke1.below hb) lx).mono fun e w3 h => RetQ.pd h hb.size)) ?_
      refine And.intro (ob_build_q (φ := pq (x) w14.heap.size) rfl rfl (ev_dep (j := 2) (by kernel_rfl) rfl rfl) Tryz.underlying64 info_rat (fun w v h => ⟨h, by obtain ⟨⟨u, t, rfl, hu, ht⟩, _⟩ := h; obtain ⟨_, _, rfl, _⟩ := id hu; obtain ⟨_, _, rfl, _⟩ := id ht; exact ⟨_, _, _, rfl, rfl, rfl, rfl⟩⟩) (fun _ _ h => h)) ?_
      trivial
     case done3 =>
      refine fun w15 hb15 v0 h0 v1 h1 v2 h2 v3 h3 b hbf => ?_
      obtain rfl := h0; obtain rfl := h1
      obtain ⟨q2, f2⟩ := h2
      obtain ⟨g3_, x3, y3, z3, rfl, c30, c31, c32, K3⟩ := h3
      simp only [Act.put, List.setIfInBounds_toArray, List.set_cons_zero, List.set_cons_succ] at hbf
      subst hbf
      replace Be1 := Be1.below hb15
      replace ke1s := ke1s.below hb15
      replace ke1d := ke1d.below hb15
      replace ke1z := ke1z.below hb15
      replace ke1 := ke1.below hb15
      replace bb := bb.trans (hb15.mono bb.size)
      have hsz15 := bb.size
      replace bl := bl.trans (hb15.mono bl.size)
      have s_2 := sB
      have hR4 := hR.below bl
      have hF4 := hF.below bl
      have hsz4 := bb.size
      have HL8 : Hid ((ps ++ new).length ≤ 1000000000) := by show _ ≤ _; rw [List.length_append, HNL.out]; omega
      obtain ⟨⟨uE, tE, eE, sE, dE⟩, fE⟩ := K3
      obtain ⟨rfl, rfl, rfl⟩ : x3 = .bool (ngB (x).num) ∧ y3 = uE ∧ z3 = tE := by injection eE with eE; simpa using eE
      clear eE
      obtain ⟨AE, cE, rfl, _⟩ := id sE
      obtain ⟨DE, rE, rfl, _⟩ := id dE
      refine ops_append_q (i := 4) (.tmp 13) (.tmp 16) rfl rfl rfl Tryz.underlying64 info_rat (p := (x, .slice AE (digs 4294967296 (x).num.natAbs).length cE, .slice DE (digs 4294967296 (x).den).length rE)) (ps := (ps ++ new)) rfl hR4 rfl c30 c31 c32 rfl rfl HL8.out hsz4 fun v8 w8 b8 row8 bb8 HK8 hb8 => ?_
      simp only [Act.put, List.setIfInBounds_toArray, List.set_cons_zero, List.set_cons_succ] at hb8
      subst hb8
      have EC : IsE .u64 4294967296 w15 ((x, .slice AE (digs 4294967296 (x).num.natAbs).length cE, .slice DE (digs 4294967296 (x).den).length rE) : Elt) := ⟨sE, dE⟩
      have F8 := hF4.snoc HK8.out.1 EC ((fE _ _ _ rfl).1.far nR) ((fE _ _ _ rfl).2.far nR)
      have NN8 := hN.snoc ((fE _ _ _ rfl).1.mono (show W.heap.size ≤ _ by omega)) ((fE _ _ _ rfl).2.mono (show W.heap.size ≤ _ by omega)) (p := (x, .slice AE (digs 4294967296 (x).num.natAbs).length cE, .slice DE (digs 4294967296 (x).den).length rE))
      refine ops_assign (i := 5) (v8) rfl rfl rfl rfl rfl fun b hbf => ?_
      simp only [Act.put, List.setIfInBounds_toArray, List.set_cons_zero, List.set_cons_succ] at hbf
      subst hbf
      refine ops_done ?_
      have HM8 : Hid ((new ++ [((x, .slice AE (digs 4294967296 (x).num.natAbs).length cE, .slice DE (digs 4294967296 (x).den).length rE) : Elt)]).map (·.1) = r.take (k + 1)) := by
       show _ = _
       rw [List.map_append, HM.out, take_snoc HQ1.out]
       rfl
      have HG8 : Hid (Grew W w8 (.slice A0 ps.length c0) v8) := (HG.out.trans (Grew.of_below _ bl)).trans HK8.out
      have b8 := bb.trans bb8
      rw [List.append_assoc] at row8
      clear HK8 EC fE hR hF hR4 hF4 hN
      have hsk : r.length - (k + 1) < r.length - k := by omega
      go_wp2
      go_roundw
      case rel => exact ⟨k + 1, _, by omega, row8, HM8, HG8, F8, NN8, b8, by go_num⟩
      case measure => simp [intOf]; omega
   ·have HME : Hid (new.map (·.1) = r) := by show _ = _; rw [HM.out, List.take_of_length_le (by omega)]
    have hbW : Below w.heap.size W wr := (Below.refl _ W).grown HG.out.2.1 hbase hbl
    clear HM
    go_wp2
    go_ret
    exact ⟨_, new, rfl, hR, HME.out, HG.out, hF, hN, hbW⟩
/-- The program's tables whose rows the call owns. -/
abbrev TabR (w : World) (base : Nat) (V : Value) (us : List Value) (pss : List (List Elt)) : Prop := TabO .u64 4294967296 44 w base 64 V us pss
def RetJoin (base g n c : Nat) (J : List (List Rat)) (w : World) (e : Ending) (w' : World) : Prop := ∃ us pss, e = .returned (.slice (some ⟨g, 0, none⟩) n c) ∧ TabR w' base (.slice (some ⟨g, 0, none⟩) n c) us pss ∧ valq pss = J ∧ us.length = n ∧ Below base w w'
set_option maxHeartbeats 3200000 in
set_option maxRecDepth 100000 in
theorem mjoined_any (g n c : Nat) (a1 : Value) (us : List Value) (pss : List (List Elt)) (t : List (List Rat)) (w W : World) (h0 : TabR W w.heap.size (.slice (some ⟨g, 0, none⟩) n c) us pss) (h1 : SlT .u64 4294967296 w a1 t) (hb : Below w.heap.size w W) (hu : us.length = n) (ht : t.length = n) (hgw : w.heap.size ≤ g)
  (hl : (∀ r ∈ valq pss, r.length ≤ 1000) ∧ (∀ r ∈ t, r.length ≤ 1000) ∧ lenT t 100000) :
  Calls Tryz.prog 55 #[.slice (some ⟨g, 0, none⟩) n c, a1] W (RetJoin w.heap.size g n c (joinq (valq pss) t) W) := by
 have st1 := h1
 obtain ⟨A1, c1, rfl, hc1, hm1⟩ := h1.shape
 unfold maxLen at hm1
 have HL := Lib.hid hl
 have HTN := Lib.hid ht
 have HUN := Lib.hid hu
 have HPT : Hid ((valq pss).length = t.length) := by show _ = _; rw [valq_len, ← h0.len, hu, ht]
 clear hl ht hu
 go_enter Tryz.func55, Tryz.ntmps55
 go_wp2
 go_loopw [9] (fun v9 wr => ∃ (k : Nat) (us' : List Value) (pss' : List (List Elt)), k ≤ t.length ∧ TabR wr w.heap.size (.slice (some ⟨g, 0, none⟩) n c) us' pss' ∧ Hid (valq pss' = jst (valq pss) t k) ∧ us'.length = n ∧ Below w.heap.size W wr ∧ v9 = .int .i64 (k : Int)) (fun v9 _ => t.length - (intOf v9).toNat)
 case atStart => exact ⟨0, us, pss, by omega, h0, by show _ = _; rw [jst_zero], HUN.out, Below.refl _ _, rfl⟩
 case round =>
  obtain ⟨k, us', pss', hk, hT, HJ, hul, hbW, rfl⟩ := hrel
  have HUL := Lib.hid hul
  clear hul
  have bb : Below w.heap.size w wr := hb.trans hbW
  by_cases hlt : k < t.length
  ·have hnt : t ≠ [] := List.length_pos_iff.1 (by omega)
   obtain ⟨x, hx⟩ : ∃ x, t[k]? = some x := ⟨_, List.getElem?_eq_getElem hlt⟩
   have HX := Lib.hid hx
   have hxm := List.mem_of_getElem? hx
   obtain ⟨ad, rfl⟩ := st1.place hnt
   obtain ⟨Ax, cx, hi, ewx, srx⟩ := st1.at2 hx
   have ecx := (bb.cell (World.block_lt_of_cell? w _ ewx)).trans ewx
   have hkn : k < n := by have := HTN.out; omega
   obtain ⟨u, hu'⟩ : ∃ u, us'[k]? = some u := ⟨_, List.getElem?_eq_getElem (by have := HUL.out; omega)⟩
   obtain ⟨ps, hps⟩ : ∃ ps, pss'[k]? = some ps := ⟨_, List.getElem?_eq_getElem (by rw [← hT.len]; have := HUL.out; omega)⟩
   have HU := Lib.hid hu'
   have HPS := Lib.hid hps
   obtain ⟨p, hp⟩ : ∃ p, (valq pss)[k]? = some p := ⟨_, List.getElem?_eq_getElem (by rw [HPT.out]; exact hlt)⟩
   have HP : Hid (ps.map (·.1) = p) := by
    have h2 := valq_at hps
    rw [HJ.out, jst_at HPT.out hp] at h2
    exact (Option.some.inj h2).symm
   have HJ2 : Hid ((jst (valq pss) t k).set k (p ++ x) = jst (valq pss) t (k + 1)) := jst_set HPT.out hp hx
   have hpl : ps.length ≤ 1000 := by
    have h2 := congrArg List.length HP.out
    rw [List.length_map] at h2
    rw [h2]
    exact HL.out.1 p (List.mem_of_getElem? hp)
   have hown := hT.own k u ps hu' hps
   have lxl : x.length ≤ 1000 := HL.out.2.1 x hxm
   have lx : ∀ y ∈ x, lenQ y 100000 := HL.out.2.2 x hxm
   have hcell := hT.cell hu'
   obtain ⟨Au, cu, eu, hcu⟩ := hown.isVF
   subst eu
   have HT := Lib.hid hT
   clear hx hxm hu' hps hp hT
   go_wp2_with fail
   refine (mappended_any _ _ ps x w wr hown srx bb ⟨hpl, lxl, lx⟩).mono ?_
   rintro e w2 ⟨u2, new, rfl, hrow, hmap, hgr, hfar, hnew, b2⟩
   have hV := HT.out.mid (by decide) HU.out HPS.out hgr
   have hc2 := hV.cellAt HU.out
   have hf2 := hV.frozenAt k
   have hT2 := HT.out.put (by decide) HU.out HPS.out hrow hgr hfar (fun v hv q hq => by
    have h2 := HT.out.farNew ((hnew q hq).1)
    have h3 := HT.out.farNew ((hnew q hq).2)
    exact ⟨h2.1 v hv, h3.1 v hv⟩) (fun q hq => ⟨(HT.out.farNew ((hnew q hq).1)).2, (HT.out.farNew ((hnew q hq).2)).2⟩)
   obtain ⟨A2, c2, e2, hc2'⟩ := hrow.isVF
   rw [List.length_append] at e2
   subst e2
   have HJ3 : Hid (valq (pss'.set k (ps ++ new)) = jst (valq pss) t (k + 1)) := by
    show _ = _
    rw [valq_set, HJ.out, List.map_append, HP.out, hmap, HJ2.out]
   have hul2 : (us'.set k (.slice A2 (ps.length + new.length) c2)).length = n := by rw [List.length_set]; exact HUL.out
   have hb3 := (hbW.trans b2).setCell (p := ⟨g, k, none⟩) hgw (.slice A2 (ps.length + new.length) c2)
   have hsk : t.length - (k + 1) < t.length - k := by omega
   clear hrow hgr hfar hnew hV hown ecx hcell
   go_wp2
   go_roundw
   case rel => exact ⟨k + 1, _, _, by omega, hT2, HJ3, hul2, hb3, by go_num⟩
   case measure => simp [intOf]; omega
  ·have HJE : Hid (valq pss' = joinq (valq pss) t) := by show _ = _; rw [HJ.out, jst_full HPT.out (by omega)]
   go_wp2
   go_ret
   exact ⟨us', pss', rfl, hT, HJE.out, HUL.out, hbW⟩
theorem heap_setCell {w : World} {g i : Nat} {u : Value} {cs : Array Value} {e : TypeId} (h : w.heap[g]? = some (.cells cs e (0, 0))) : (w.setCell ⟨g, i, none⟩ u).heap[g]? = some (.cells (cs.setIfInBounds i u) e (0, 0)) := by
 simp [World.setCell, Array.getElem?_modify, h]
theorem TabS.stored {k : IntKind} {B : Nat} {w : World} {g : Nat} {TS : TypeId} {us : List Value} {t : List (List Rat)} (h : TabS k B w g TS us t) (i : Nat) {u : Value} {r : List Rat} (hu : SlF k B w u r) : TabS k B (w.setCell ⟨g, i, none⟩ u) g TS (us.set i u) (t.set i r) := h.put (grown_set w g i u) (heap_setCell h.1.1) hu
theorem TabS.cellAt {k : IntKind} {B : Nat} {w : World} {g : Nat} {TS : TypeId} {us : List Value} {t : List (List Rat)} (h : TabS k B w g TS us t) {i : Nat} (hi : i < t.length) : ∃ u, w.cell? ⟨g, i, none⟩ = some u := by
 have hu : us[i]? = some (us[i]'(by rw [h.2.1]; exact hi)) := List.getElem?_eq_getElem _
 have := h.1.cell hu
 rw [addr_zero] at this
 exact ⟨_, this⟩
theorem TabS.frozenAt {k : IntKind} {B : Nat} {w : World} {g : Nat} {TS : TypeId} {us : List Value} {t : List (List Rat)} (h : TabS k B w g TS us t) (i : Nat) : w.frozen? ⟨g, i, none⟩ = false := h.1.1.frozen i
theorem retTE_no (n : Int) (hn : n ≠ 0) {w w' : World} (hb : Below w.heap.size w w') : RetTE [] n w (.returned (.tuple #[.slice none 0 0, .int .i64 n])) w' := ⟨_, rfl, by rw [if_neg hn]; exact slT_nil _ _ _, hb⟩
set_option maxHeartbeats 3200000 in
set_option maxRecDepth 100000 in
theorem mapply_any (a0 a1 : Value) (t : List (List Rat)) (v : List Rat) (m n : Nat) (w : World) (h0 : SlT .u64 4294967296 w a0 t) (h1 : SlF .u64 4294967296 w a1 v) (hl : lenT t m ∧ (∀ y ∈ v, lenQ y n) ∧ (m + n + 1) * v.length + 1 ≤ 4800) :
  Calls Tryz.prog 27 #[a0, a1] w (fun e w' => ((mayq t ∧ wideq t = v.length) ∧ RetQLE (dotsq t v) 0 w e w') ∨ (¬ (mayq t ∧ wideq t = v.length) ∧ RetQLE [] 8 w e w')) := by
 have st0 := h0
 obtain ⟨A0, c0, rfl, hc0, hm0⟩ := h0.shape
 obtain ⟨A1, c1, rfl, hc1, hm1⟩ := h1.shape
 have HL := Lib.hid hl
 clear hl
 go_enter Tryz.func27, Tryz.ntmps27
 go_wp2_with fail
 refine (msize_any _ t _ st0).mono ?_
 rintro e w2 ⟨rfl, b2⟩
 have st2 := st0.below b2
 by_cases h : mayq t
 ·have HM := Lib.hid h
  go_wp2_with fail
  refine (mmay_any _ t true _ st2 (decide_eq_true HM.out).symm).mono ?_
  rintro e w3 ⟨rfl, b3⟩
  have b23 := b2.trans (b3.mono b2.size)
  clear h st2 b3
  by_cases hw : wideq t = v.length
  ·have hne : ¬ ((v.length : Nat) : Int) ≠ ((wideq t : Nat) : Int) := by rw [hw]; exact fun h => h rfl
   have hneb : (((v.length : Nat) : Int) != ((wideq t : Nat) : Int)) = false := by rw [bne_eq_false_iff_eq, hw]
   have HW := Lib.hid hw
   have st3 := st0.below b23
   have sv3 := h1.below b23
   clear hw
   go_wp2_with fail
   refine (mdots_any _ _ t v m n _ st3 sv3 (fun r hr => by rw [HM.out.2.2 r hr, HW.out]) ⟨Nat.le_trans HM.out.1 (by decide), by have := HM.out.2.1; rw [HW.out] at this; omega, HL.out.1, HL.out.2.1, HL.out.2.2⟩).mono ?_
   rintro e w4 ⟨V, rfl, sV, b4⟩
   go_wp2
   go_ret2
   exact .inl ⟨⟨HM.out, HW.out⟩, _, rfl, by rw [if_pos rfl]; exact sV, b23.trans (b4.mono b23.size)⟩
  ·have hne : ((v.length : Nat) : Int) ≠ ((wideq t : Nat) : Int) := by omega
   have hneb : (((v.length : Nat) : Int) != ((wideq t : Nat) : Int)) = true := by rw [bne_iff_ne]; exact hne
   have HW := Lib.hid hw
   clear hw
   go_wp2
   go_ret2
   exact .inr ⟨fun h => HW.out h.2, _, rfl, by rw [if_neg (by decide)]; exact slF_nil _ _ _, b23⟩
 ·have HM := Lib.hid h
  go_wp2_with fail
  refine (mmay_any _ t false _ st2 (decide_eq_false HM.out).symm).mono ?_
  rintro e w3 ⟨rfl, b3⟩
  have b23 := b2.trans (b3.mono b2.size)
  clear h
  go_wp2
  go_ret2
  exact .inr ⟨fun h => HM.out h.1, _, rfl, by rw [if_neg (by decide)]; exact slF_nil _ _ _, b23⟩
theorem foldl_take_snoc {α β : Type} (f : α → β → α) (a : α) {l : List β} {j : Nat} {x : β} (h : l[j]? = some x) : (l.take (j + 1)).foldl f a = f ((l.take j).foldl f a) x := by
 rw [List.take_add_one, h]
 simp [List.foldl_append]
/-- May all lie side by side: each may be, all with as many rows. -/
def besides (n : Nat) (ts : List (List (List Rat))) : Prop := ∀ t ∈ ts, mayq t ∧ t.length = n
theorem besideT_snoc {n j : Nat} {ts : List (List (List Rat))} {t : List (List Rat)} (h : ts[j]? = some t) : besideT n (ts.take (j + 1)) = joinq (besideT n (ts.take j)) t := foldl_take_snoc joinq _ h
theorem mem_joinq {α : Type} {P t : List (List α)} {r : List α} (h : r ∈ joinq P t) : ∃ p ∈ P, ∃ q ∈ t, r = p ++ q := by
  obtain ⟨i, hi⟩ := List.mem_iff_getElem?.1 h
  unfold joinq at hi
  rw [List.getElem?_zipWith] at hi
  cases hp : P[i]? with
  | none => rw [hp] at hi; cases hi
  | some p =>
    cases hq : t[i]? with
    | none => rw [hp, hq] at hi; cases hi
    | some q =>
      rw [hp, hq] at hi
      obtain rfl : p ++ q = r := by simpa using hi
      exact ⟨p, List.mem_of_getElem? hp, q, List.mem_of_getElem? hq, rfl⟩
theorem sum_take_snoc {l : List Nat} {j x : Nat} (h : l[j]? = some x) : (l.take (j + 1)).sum = (l.take j).sum + x := by
 rw [List.take_add_one, h]; simp
theorem sum_take_le : ∀ (l : List Nat) (j : Nat), (l.take j).sum ≤ l.sum
 | [], j => by simp
 | x :: l, 0 => by simp
 | x :: l, j + 1 => by have := sum_take_le l j; simp; omega
/-- A table of the call's own. -/
def RetTO (n : Nat) (t : List (List Rat)) (w : World) (e : Ending) (w' : World) : Prop := ∃ g us pss, e = .returned (.tuple #[.slice (some ⟨g, 0, none⟩) n n, .int .i64 0]) ∧ TabR w' w.heap.size (.slice (some ⟨g, 0, none⟩) n n) us pss ∧ valq pss = t ∧ us.length = n ∧ w.heap.size ≤ g ∧ Below w.heap.size w w'
set_option maxHeartbeats 6400000 in
set_option maxRecDepth 100000 in
theorem mbeside_own (a0 : Value) (ts : List (List (List Rat))) (t0 : List (List Rat)) (w : World) (h0 : ListT w a0 ts) (ht0 : ts[0]? = some t0) (hl : ts.length ≤ 3 ∧ (ts.map wideq).sum ≤ 200 ∧ (∀ t ∈ ts, lenT t 100000) ∧ t0.length ≤ 200) :
    Calls Tryz.prog 68 #[a0] w (fun e w' => (besides t0.length ts ∧ RetTO t0.length (besideT t0.length ts) w e w') ∨ (¬ besides t0.length ts ∧ RetTE [] 8 w e w')) := by
  have st0 := h0
  obtain ⟨A0, c0, rfl, hc0⟩ := h0.shape
  have HL := Lib.hid hl
  have hl3 : ts.length ≤ 3 := hl.1
  have hpos : 0 < ts.length := (List.getElem?_eq_some_iff.1 ht0).1
  have hn : ts ≠ [] := List.length_pos_iff.1 hpos
  have hneb : (((ts.length : Nat) : Int) == 0) = false := by rw [beq_eq_false_iff_ne]; omega
  have hne0 : ¬ ((ts.length : Nat) : Int) = 0 := by omega
  have ht02 : t0.length ≤ 200 := hl.2.2.2
  obtain ⟨ad, rfl⟩ := st0.place hn
  obtain ⟨At0, ct0, hit0, ew0, stt0⟩ := st0.at2 ht0
  have ead : ad.add 0 = ad := by simp [Addr.add]
  rw [ead] at ew0
  have HT0 := Lib.hid ht0
  clear hl ht0
  go_enter Tryz.func68, Tryz.ntmps68
  go_wp2
  go_loopw [4, 14] (fun v4 v14 wr => ∃ k S : Nat, k ≤ ts.length ∧ Hid (∀ (i : Nat) (t : List (List Rat)), i < k → ts[i]? = some t → mayq t ∧ t.length = t0.length) ∧ Hid (S = ((ts.map wideq).take k).sum) ∧ Below w.heap.size w wr ∧ v4 = .int .i64 (S : Int) ∧ v14 = .int .i64 (k : Int)) (fun _ v14 _ => ts.length - (intOf v14).toNat)
  case atStart => exact ⟨0, 0, by omega, (by show ∀ i, _; intro i t hi; omega), rfl, Below.refl _ _, rfl, rfl⟩
  case round =>
    obtain ⟨k, S, hk, HA, HS, bb, rfl, rfl⟩ := hrel
    have ec0 := (bb.cell (World.block_lt_of_cell? w _ ew0)).trans ew0
    by_cases hlt : k < ts.length
    · obtain ⟨t, ht⟩ : ∃ t, ts[k]? = some t := ⟨_, List.getElem?_eq_getElem hlt⟩
      have HT := Lib.hid ht
      obtain ⟨At, ct, hit, ect, stt⟩ := (st0.below bb).at2 ht
      have hS2 : ((ts.map wideq).take (k + 1)).sum = S + wideq t := by rw [sum_take_snoc (x := wideq t) (by rw [List.getElem?_map, ht]; rfl), HS.out]
      have hSle : S + wideq t ≤ 200 := by
        have h1 := sum_take_le (ts.map wideq) (k + 1)
        have h2 := HL.out.2.1
        omega
      have HS2 := Lib.hid hS2.symm
      clear ht hS2
      go_wp2_with fail
      refine (msize_any _ t _ stt).mono ?_
      rintro e w2 ⟨rfl, b2⟩
      have bb2 := bb.trans (b2.mono bb.size)
      have stt2 := stt.below b2
      have hov : (S : Int) + ((wideq t : Nat) : Int) ≤ 200 := by omega
      have hov2 : ¬ (200 : Int) < (S : Int) + ((wideq t : Nat) : Int) := by omega
      clear ect stt b2
      by_cases hm : mayq t
      · have HM := Lib.hid hm
        clear hm
        go_wp2_with fail
        refine (mmay_any _ t true _ stt2 (decide_eq_true HM.out).symm).mono ?_
        rintro e w3 ⟨rfl, b3⟩
        have bb3 := bb2.trans (b3.mono bb2.size)
        have ec3 := (bb3.cell (World.block_lt_of_cell? w _ ew0)).trans ew0
        clear stt2 b3
        by_cases hle : t.length = t0.length
        · have hne : (((t.length : Nat) : Int) != ((t0.length : Nat) : Int)) = false := by rw [bne_eq_false_iff_eq, hle]
          have hne' : ((t.length : Nat) : Int) = ((t0.length : Nat) : Int) := by rw [hle]
          have HLE := Lib.hid hle
          have HA2 : Hid (∀ (i : Nat) (t : List (List Rat)), i < k + 1 → ts[i]? = some t → mayq t ∧ t.length = t0.length) := by
            show ∀ i, _
            intro i t' hi h'
            by_cases e : i = k
            · subst e
              rw [HT.out] at h'
              injection h' with h'
              subst h'
              exact ⟨HM.out, HLE.out⟩
            · exact HA.out i t' (by omega) h'
          have hsk : ts.length - (k + 1) < ts.length - k := by omega
          clear hle HA ec0
          go_wp2
          go_roundw
          case rel => exact ⟨k + 1, S + wideq t, by omega, HA2, HS2, bb3, by go_num, by go_num⟩
          case measure => simp [intOf]; omega
        · have hne : (((t.length : Nat) : Int) != ((t0.length : Nat) : Int)) = true := by rw [bne_iff_ne]; omega
          have hne' : ¬ ((t.length : Nat) : Int) = ((t0.length : Nat) : Int) := by omega
          have HN : Hid (¬ besides t0.length ts) := fun h => hle (h t (List.mem_of_getElem? HT.out)).2
          clear hle HA ec0
          go_wp2
          go_ret2
          exact .inr ⟨HN.out, retTE_no 8 (by decide) bb3⟩
      · have HM := Lib.hid hm
        clear hm
        go_wp2_with fail
        refine (mmay_any _ t false _ stt2 (decide_eq_false HM.out).symm).mono ?_
        rintro e w3 ⟨rfl, b3⟩
        have bb3 := bb2.trans (b3.mono bb2.size)
        have HN : Hid (¬ besides t0.length ts) := fun h => HM.out (h t (List.mem_of_getElem? HT.out)).1
        clear HA ec0
        go_wp2
        go_ret2
        exact .inr ⟨HN.out, retTE_no 8 (by decide) bb3⟩
    · obtain rfl : k = ts.length := by omega
      have HB : Hid (besides t0.length ts) := fun t ht => by
        obtain ⟨i, hi⟩ := List.mem_iff_getElem?.1 ht
        exact HA.out i t (List.getElem?_eq_some_iff.1 hi).1 hi
      clear HA HS
      go_wp2_with fail
      refine (mbare_any _ t0.length _ rfl (by omega)).mono ?_
      rintro e w4 ⟨g, rfl, TB, hg, b4⟩
      have bb4 := bb.trans (b4.mono bb.size)
      have hgw : w.heap.size ≤ g := Nat.le_trans bb.size hg
      have hT0 : TabR w4 w.heap.size _ _ _ := TB.owned hgw (by omega)
      have HV0 : Hid (valq (List.replicate t0.length ([] : List Elt)) = besideT t0.length (ts.take 0)) := by show _ = _; rw [valq_nil]; rfl
      have HU0 : Hid ((List.replicate t0.length (Value.slice none 0 0)).length = t0.length) := by show _ = _; simp
      have HR0 : Hid (∀ r ∈ besideT t0.length (ts.take 0), r.length ≤ 200 * 0) := by
        show ∀ r ∈ _, _
        intro r hr
        rw [(List.mem_replicate.1 (show r ∈ List.replicate t0.length [] from hr)).2]
        exact Nat.le_refl _
      clear TB ec0 bb b4
      go_wp2
      go_loopw [9, 52] (fun v9 v52 wr => ∃ (k : Nat) (us : List Value) (pss : List (List Elt)), k ≤ ts.length ∧ TabR wr w.heap.size (.slice (some ⟨g, 0, none⟩) t0.length t0.length) us pss ∧ Hid (valq pss = besideT t0.length (ts.take k)) ∧ Hid (us.length = t0.length) ∧ Hid (∀ r ∈ besideT t0.length (ts.take k), r.length ≤ 200 * k) ∧ Below w.heap.size w wr ∧ v9 = .slice (some ⟨g, 0, none⟩) t0.length t0.length ∧ v52 = .int .i64 (k : Int)) (fun _ v52 _ => ts.length - (intOf v52).toNat)
      case atStart => exact ⟨0, _, _, by omega, hT0, HV0, HU0, HR0, bb4, rfl, rfl⟩
      case round =>
        clear hT0 HV0 HU0 HR0 bb4
        obtain ⟨k, us, pss, hk, hT, HV, HU, HR, bb, rfl, rfl⟩ := hrel
        by_cases hlt : k < ts.length
        · obtain ⟨t, ht⟩ : ∃ t, ts[k]? = some t := ⟨_, List.getElem?_eq_getElem hlt⟩
          have HT := Lib.hid ht
          obtain ⟨At, ct, hit, ewt, stt⟩ := st0.at2 ht
          have ect := (bb.cell (World.block_lt_of_cell? w _ ewt)).trans ewt
          have htm := List.mem_of_getElem? ht
          have HTB : Hid (mayq t ∧ t.length = t0.length) := HB.out t htm
          have HW : Hid (∀ r ∈ t, r.length ≤ 200) := fun r hr => by rw [HTB.out.1.2.2 r hr]; exact HTB.out.1.2.1
          have HLT : Hid (lenT t 100000) := HL.out.2.2.1 t htm
          have HV2 : Hid (joinq (valq pss) t = besideT t0.length (ts.take (k + 1))) := by show _ = _; rw [besideT_snoc ht, HV.out]
          have HR2 : Hid (∀ r ∈ besideT t0.length (ts.take (k + 1)), r.length ≤ 200 * (k + 1)) := by
            show ∀ r ∈ _, _
            intro r hr
            rw [besideT_snoc ht] at hr
            obtain ⟨p, hp, q, hq, rfl⟩ := mem_joinq hr
            have h1 := HR.out p hp
            have h2 := HW.out q hq
            rw [List.length_append]; omega
          clear ht htm ewt
          go_wp2_with fail
          refine (mjoined_any g t0.length t0.length _ us pss t w _ hT stt bb HU.out HTB.out.2 hgw ⟨fun r hr => by rw [HV.out] at hr; have := HR.out r hr; omega, fun r hr => Nat.le_trans (HW.out r hr) (by decide), HLT.out⟩).mono ?_
          rintro e w7 ⟨us7, pss7, rfl, T7, V7, L7, b7⟩
          have bb7 := bb.trans b7
          have HV7 : Hid (valq pss7 = besideT t0.length (ts.take (k + 1))) := by show _ = _; rw [V7, HV2.out]
          have HU7 := Lib.hid L7
          have hsk : ts.length - (k + 1) < ts.length - k := by omega
          clear hT HV HU HR stt ect V7 L7 b7
          go_wp2
          go_roundw
          case rel => exact ⟨k + 1, us7, pss7, by omega, T7, HV7, HU7, HR2, bb7, rfl, by go_num⟩
          case measure => simp [intOf]; omega
        · obtain rfl : k = ts.length := by omega
          have HV2 : Hid (valq pss = besideT t0.length ts) := by
            show _ = _
            rw [HV.out, List.take_of_length_le (Nat.le_refl _)]
          clear HV HR
          go_wp2
          go_ret2
          exact .inl ⟨HB.out, g, us, pss, rfl, hT, HV2.out, HU.out, hgw, bb⟩
theorem blk_set1 {w : World} {g i : Nat} {t : TypeId} {cs : Array Value} (h : Blk w g t cs) (u : Value) : Blk (w.setCell ⟨g, i, none⟩ u) g t (cs.setIfInBounds i u) := by
 unfold Blk at h ⊢
 simp [World.setCell, Array.getElem?_modify, h]
theorem blk_set3 {w : World} {g : Nat} {t : TypeId} {a b c : Value} (h : Blk w g t #[a, b, c]) (x y z : Value) : Blk (((w.setCell ⟨g, 0, none⟩ x).setCell ⟨g, 1, none⟩ y).setCell ⟨g, 2, none⟩ z) g t #[x, y, z] := blk_set1 (blk_set1 (blk_set1 h x) y) z
theorem below_grown {w w2 w3 : World} {row : Option Nat} (hg : w.grownBy w2 row) (hb : Below w2.heap.size w2 w3) : w.grownBy w3 row :=
 ⟨hb.os.trans hg.os, hb.tape.trans hg.tape, hb.output.trans hg.output, Nat.le_trans hg.size hb.size, fun k hk hne => (hb.block k (Nat.lt_of_lt_of_le hk hg.size)).trans (hg.block k hk hne)⟩
theorem below_none {w w2 : World} (hb : Below w.heap.size w w2) (row : Option Nat) : w.grownBy w2 row := ⟨hb.os, hb.tape, hb.output, hb.size, fun k hk _ => hb.block k hk⟩
theorem num_ordz0 {x : Rat} : (ordz x.num 0 == 0) = decide (x = 0) := by
 by_cases h : x = 0
 ·rw [h, decide_eq_true rfl]; rfl
 ·rw [decide_eq_false h, beq_eq_false_iff_ne]
  intro e
  have hz : x.num ≠ 0 := fun k => h (Rat.num_eq_zero.1 k)
  rcases Int.lt_or_gt_of_ne hz with k | k
  ·rw [ordz_lt k] at e; cases e
  ·rw [ordz_gt k] at e; cases e
section
variable {w : World} {ops : Array Oper} {o : Oper} {a : Act} {K : Act → World → Prop} {Q : Exit → Act → World → Prop} {E : Prop} {b R C i j : Nat} {T : List (List Rat)}
end
theorem set3_list : ∀ (l : List Value) (k : Nat) (x y z : Value), k + 3 ≤ l.length → ((l.set k x).set (k + 1) y).set (k + 2) z = l.take k ++ [x, y, z] ++ l.drop (k + 3)
  | [], k, x, y, z, h => by simp at h
  | a :: l, k + 1, x, y, z, h => by
    have ih := set3_list l k x y z (by simpa using h)
    rw [List.set_cons_succ, List.set_cons_succ, List.set_cons_succ, ih]
    simp
  | a :: l, 0, x, y, z, h => by
    match l, h with
    | b :: c :: l, _ => simp
    | [b], h => simp at h
    | [], h => simp at h
/-- A row's fraction is set. -/
theorem rowN_set3 {w : World} {g n i : Nat} {qs : List Rat} {q : Rat} {u t : Value} (h : RowN w g n qs) (hi : i < n) (hu : IsS w .u64 u (digs 4294967296 q.num.natAbs)) (ht : IsS w .u64 t (digs 4294967296 q.den)) :
  w.grownBy (((w.setCell ⟨g, 0 + i * 3, none⟩ (.bool (ngB q.num))).setCell ⟨g, 0 + i * 3 + 1, none⟩ u).setCell ⟨g, 0 + i * 3 + 2, none⟩ t) (some g) ∧ (i = qs.length → RowN (((w.setCell ⟨g, 0 + i * 3, none⟩ (.bool (ngB q.num))).setCell ⟨g, 0 + i * 3 + 1, none⟩ u).setCell ⟨g, 0 + i * 3 + 2, none⟩ t) g n (qs ++ [q])) ∧ (i < qs.length → RowN (((w.setCell ⟨g, 0 + i * 3, none⟩ (.bool (ngB q.num))).setCell ⟨g, 0 + i * 3 + 1, none⟩ u).setCell ⟨g, 0 + i * 3 + 2, none⟩ t) g n (qs.set i q)) := by
 have hg : w.grownBy (((w.setCell ⟨g, 0 + i * 3, none⟩ (.bool (ngB q.num))).setCell ⟨g, 0 + i * 3 + 1, none⟩ u).setCell ⟨g, 0 + i * 3 + 2, none⟩ t) (some g) :=
  ((grown_set w g (0 + i * 3) _).andThen (grown_set _ g (0 + i * 3 + 1) _) (fun j e => .inr e)).andThen (grown_set _ g (0 + i * 3 + 2) _) (fun j e => .inr e)
 have hsz : ∀ cs, Blk w g 44 cs → cs.size = n * 3 := fun cs hcs => by
  obtain ⟨ps, h1, _, h3, _⟩ := h
  unfold Blk at h3 hcs
  rw [h3] at hcs
  injection hcs with hcs
  injection hcs with hcs
  rw [← hcs, List.size_toArray, flat3_len, h1]
 refine ⟨hg, h.put hi hu ht hg fun cs hcs => ?_⟩
 have h1 := blk_set1 (blk_set1 (blk_set1 hcs (i := 0 + i * 3) (.bool (ngB q.num))) (i := 0 + i * 3 + 1) u) (i := 0 + i * 3 + 2) t
 have h2 := hsz cs hcs
 obtain ⟨l⟩ := cs
 have e : (((⟨l⟩ : Array Value).setIfInBounds (0 + i * 3) (.bool (ngB q.num))).setIfInBounds (0 + i * 3 + 1) u).setIfInBounds (0 + i * 3 + 2) t = (l.take (0 + i * 3) ++ [.bool (ngB q.num), u, t] ++ l.drop (0 + i * 3 + 3)).toArray := by
  rw [← set3_list l (0 + i * 3) (.bool (ngB q.num)) u t (by simp at h2; omega)]
  simp
 rw [e] at h1
 exact h1
/-- The cells of one of a row's places, whatever stands there. -/
theorem RowN.places {w : World} {g n i : Nat} {qs : List Rat} (h : RowN w g n qs) (hi : i < n) : ∃ x y z, w.cell? ⟨g, 0 + i * 3, none⟩ = some x ∧ w.cell? ⟨g, 0 + i * 3 + 1, none⟩ = some y ∧ w.cell? ⟨g, 0 + i * 3 + 2, none⟩ = some z ∧ w.frozen? ⟨g, 0 + i * 3, none⟩ = false ∧ w.frozen? ⟨g, 0 + i * 3 + 1, none⟩ = false ∧ w.frozen? ⟨g, 0 + i * 3 + 2, none⟩ = false := by
 obtain ⟨ps, h1, h2, h3, h4, h5⟩ := h
 obtain ⟨f0, f1, f2⟩ := flat3_at ps i _ (List.getElem?_eq_getElem (by omega))
 rw [Nat.zero_add]
 exact ⟨_, _, _, by rw [h3.cell, List.getElem?_toArray]; exact f0, by rw [h3.cell, List.getElem?_toArray]; exact f1, by rw [h3.cell, List.getElem?_toArray]; exact f2, h3.frozen _, h3.frozen _, h3.frozen _⟩
theorem rowN_set {w : World} {g n i : Nat} {qs : List Rat} {q : Rat} {u t : Value} (h : RowN w g n qs) (hi : i < n) (hu : IsS w .u64 u (digs 4294967296 q.num.natAbs)) (ht : IsS w .u64 t (digs 4294967296 q.den)) :
  w.grownBy (((w.setCell ⟨g, i * 3, none⟩ (.bool (ngB q.num))).setCell ⟨g, i * 3 + 1, none⟩ u).setCell ⟨g, i * 3 + 2, none⟩ t) (some g) ∧ (i = qs.length → RowN (((w.setCell ⟨g, i * 3, none⟩ (.bool (ngB q.num))).setCell ⟨g, i * 3 + 1, none⟩ u).setCell ⟨g, i * 3 + 2, none⟩ t) g n (qs ++ [q])) ∧ (i < qs.length → RowN (((w.setCell ⟨g, i * 3, none⟩ (.bool (ngB q.num))).setCell ⟨g, i * 3 + 1, none⟩ u).setCell ⟨g, i * 3 + 2, none⟩ t) g n (qs.set i q)) := by
 have h1 := rowN_set3 h hi hu ht
 rw [Nat.zero_add] at h1
 exact h1
theorem RowN.place {w : World} {g n i : Nat} {qs : List Rat} (h : RowN w g n qs) (hi : i < n) : ∃ x y z, w.cell? ⟨g, i * 3, none⟩ = some x ∧ w.cell? ⟨g, i * 3 + 1, none⟩ = some y ∧ w.cell? ⟨g, i * 3 + 2, none⟩ = some z ∧ w.frozen? ⟨g, i * 3, none⟩ = false ∧ w.frozen? ⟨g, i * 3 + 1, none⟩ = false ∧ w.frozen? ⟨g, i * 3 + 2, none⟩ = false := by
 have h1 := h.places hi
 rw [Nat.zero_add] at h1
 exact h1
theorem indexN {P : Program} {t e : TypeId} (hu : P.underlying t = some (.slice e)) (hs : (P.info? e).map (·.size) = some 3) {g n c k : Nat} (hk : k < n) (w : World) : (Instr.indexAt t (.slice (some ⟨g, 0, none⟩) n c) (.int .i64 (k : Int))).run P w = .ok (.pointer (some ⟨g, k * 3, none⟩)) w := by
 have h := index3 (P := P) hu hs (g := g) (o := 0) (c := c) hk w
 rw [Nat.zero_add] at h
 exact h
theorem dotq_snoc : ∀ (p q : List Rat) (x y : Rat), p.length = q.length → dotq (p ++ [x]) (q ++ [y]) = dotq p q + x * y
  | [], [], x, y, _ => by simp [dotq, prods, sumq]
  | a :: p, b :: q, x, y, h => by
    have ih := dotq_snoc p q x y (by simpa using h)
    rw [List.cons_append, List.cons_append, dotq_cons, dotq_cons, ih, Rat.add_assoc]
  | [], b :: q, x, y, h => by simp at h
  | a :: p, [], x, y, h => by simp at h
theorem dotq_take {r v : List Rat} {k : Nat} {x y : Rat} (hx : r[k]? = some x) (hy : v[k]? = some y) : dotq (r.take (k + 1)) (v.take (k + 1)) = dotq (r.take k) (v.take k) + x * y := by
 rw [List.take_add_one, List.take_add_one, hx, hy]
 have h1 := (List.getElem?_eq_some_iff.1 hx).1
 have h2 := (List.getElem?_eq_some_iff.1 hy).1
 exact dotq_snoc _ _ _ _ (by rw [List.length_take, List.length_take]; omega)
end Go.Proofs.YtmpalajamfiiiaaGreat.rat
namespace Go.Proofs.YtmpalajamfiiiaaGreat.rat
open Go.RowKit Go.ChangeShapes Go.WideShapes Go.ChangeAt Go.Joins Go.Deep Go.Proofs.YtmpalajamfiiiaaGreat.num Go.Proofs.YtmpalajamfiiiaaGreat.mem Go.Proofs.YtmpalajamfiiiaaGreat.nat Go.Proofs.YtmpalajamfiiiaaGreat.txt Go.Proofs.YtmpalajamfiiiaaGreat.str Go.Proofs.YtmpalajamfiiiaaGreat.flow Go.Proofs.YtmpalajamfiiiaaGreat.whl
set_option linter.unusedVariables false
/-- A slice of slices of structs of a sign, limbs, and limbs, as it came in. -/
def ArgT (w : World) (v : Value) : Prop := ∃ A n c, v = .slice A n c ∧ n ≤ c ∧ c ≤ maxLen ∧ ∀ i, i < n → ∃ ad u, A = some ad ∧ w.cell? (ad.add i) = some u ∧ ArgQs w u
theorem ArgT.below {w w' : World} {v : Value} (h : ArgT w v) (hb : Below w.heap.size w w') : ArgT w' v := by
 obtain ⟨A, n, c, e, h1, h2, h3⟩ := h
 refine ⟨A, n, c, e, h1, h2, fun i hi => ?_⟩
 obtain ⟨ad, u, a1, e0, k⟩ := h3 i hi
 exact ⟨ad, u, a1, (hb.cell (World.block_lt_of_cell? w _ e0)).trans e0, ArgQs.below k hb⟩
theorem trod_qs {H : Type} {enc : TypeId × Value → H} {P : Program} {W : World} {fuel : Nat} {ts t e : TypeId} {f0 f1 g0 g1 : Field} {v : Value} {x : DataW H × List MemPlace} (ht : P.underlying ts = some (.slice t)) (hs : P.underlying t = some (.struct #[f0, f1])) (hC : P.cellsOf t = 3) (ho : (f0.offset == 0 && f1.offset == 2 && P.cellsOf f0.type == 2 && P.cellsOf f1.type == 1) = true)
    (hs2 : P.underlying f0.type = some (.struct #[g0, g1])) (hone : oneCellFields P #[g0, g1] = true) (hb : P.underlying g0.type = some .bool) (hsl : P.underlying g1.type = some (.slice e)) (hsl2 : P.underlying f1.type = some (.slice e)) (he : P.underlying e = some (.int .u64)) (ce : P.cellsOf e = 1)
    (hf : DataW.trod enc P W 0 (fun _ => true) true fuel ts [v] = some x) : ArgQs W v := by
  rcases Go.Deep.open_slice ht hf with ⟨hcs, hx⟩ | ⟨a, len', cap', m, n, D, Pl, hcs, _, hl, hm, hmm, hx, hrows⟩
  · injection hcs with hcs
    subst hcs
    exact ⟨none, 0, 0, rfl, by omega, by simp, fun i hi => by omega⟩
  · injection hcs with hcs
    subst hcs
    refine ⟨some a, len', cap', rfl, hl, hm, fun i hi => ?_⟩
    obtain ⟨cs', h1, h2⟩ := hrows i (by simp at hmm; omega)
    rw [hC] at h1
    obtain ⟨_, hlen, hcell⟩ := World.cells?_some h1
    match cs', hlen with
    | [c0, c1, c2], _ =>
      obtain ⟨b, l, m', e0, k1, k2, k3, k4⟩ := trod_q hs ho hs2 hone hb hsl hsl2 he ce h2
      subst e0
      have g0 := hcell 0 (by omega)
      have g1 := hcell 1 (by omega)
      have g2 := hcell 2 (by omega)
      rw [add_add] at g0 g1 g2
      exact ⟨a, b, c1, c2, l, m', rfl, by simpa using g0, by simpa using g1, by simpa using g2, k1, k2, k3, k4⟩
theorem arg_t {H : Type} {enc : TypeId × Value → H} {P : Program} {W : World} {base : Nat} {tt ts t e : TypeId} {f0 f1 g0 g1 : Field} {v : Value} {d : DataW H} {p : List MemPlace} (htt : P.underlying tt = some (.slice ts)) (hC1 : P.cellsOf ts = 1) (ht : P.underlying ts = some (.slice t)) (hs : P.underlying t = some (.struct #[f0, f1])) (hC : P.cellsOf t = 3) (ho : (f0.offset == 0 && f1.offset == 2 && P.cellsOf f0.type == 2 && P.cellsOf f1.type == 1) = true)
    (hs2 : P.underlying f0.type = some (.struct #[g0, g1])) (hone : oneCellFields P #[g0, g1] = true) (hb : P.underlying g0.type = some .bool) (hsl : P.underlying g1.type = some (.slice e)) (hsl2 : P.underlying f1.type = some (.slice e)) (he : P.underlying e = some (.int .u64)) (ce : P.cellsOf e = 1)
    (hv : Value.okWide P W .any base tt v) (h : DataW.Trod enc P W 0 (fun _ => true) true tt v d p) : ArgT W v := by
  obtain ⟨a0, len, cap, rfl⟩ := okWide_slice htt hv
  obtain ⟨fuel, hf⟩ := h
  rcases Go.Deep.open_slice htt hf with ⟨hcs, hx⟩ | ⟨a, len', cap', m, n, D, Pl, hcs, _, hl, hm, hmm, hx, hrows⟩
  · simp [Value.cells] at hcs
    obtain ⟨rfl, rfl, rfl⟩ := hcs
    exact ⟨none, 0, 0, rfl, by omega, by simp, fun i hi => by omega⟩
  · simp [Value.cells] at hcs
    obtain ⟨rfl, rfl, rfl⟩ := hcs
    refine ⟨some a, len, cap, rfl, hl, hm, fun i hi => ?_⟩
    obtain ⟨cs', h1, h2⟩ := hrows i (by simp at hmm; omega)
    rw [hC1] at h1
    obtain ⟨_, hlen, hcell⟩ := World.cells?_some h1
    match cs', hlen with
    | [c0], _ =>
      have g0 := hcell 0 (by omega)
      rw [add_add] at g0
      exact ⟨a, c0, rfl, by simpa using g0, trod_qs ht hs hC ho hs2 hone hb hsl hsl2 he ce h2⟩
end Go.Proofs.YtmpalajamfiiiaaGreat.rat
namespace Go.Proofs.YtmpalajamfiiiaaGreat.rat
open Go.RowKit Go.Proofs.YtmpalajamfiiiaaGreat.num Go.Proofs.YtmpalajamfiiiaaGreat.mem Go.Proofs.YtmpalajamfiiiaaGreat.nat Go.Proofs.YtmpalajamfiiiaaGreat.txt Go.Proofs.YtmpalajamfiiiaaGreat.str Go.Proofs.YtmpalajamfiiiaaGreat.flow Go.Proofs.YtmpalajamfiiiaaGreat.whl
set_option linter.unusedVariables false
section
variable {P : Program}
/-- 'all = append(all, x)', all a row of slices of the call's own. -/
theorem wpList_append_w {w : World} {ops : Array Oper} {rest : List Oper} {o : Oper} {a : Act} {Q : Exit → Act → World → Prop} (hgd : o.guard = none) (s x : Operand) {t : TypeId}
  (ho : o.op = .call { callee := .builtin .append, args := #[s, x], argTypes := #[t, t] })
  {base : Nat} {T : TypeId} (hT : P.underlying t = some (.slice T)) (hI : ∃ i, P.info? T = some i ∧ i.zero = some (.slice none 0 0) ∧ i.size = 1 ∧ i.bytes = 24) {v u : Value} {vs : List Value} (hs : a.eval s = v) (hown : RowV w base T v vs) (hx : a.eval x = .slice (some ⟨w.heap.size, 0, none⟩) 1 1) (hu : u.oneCell' = true)
  (hlen : vs.length ≤ 1000000000) (hbase : base ≤ w.heap.size)
  (h : ∀ v' w', RowV w' base T v' (vs ++ [u]) → Below base w w' → Hid (Grew w w' v v') → wpList P ops Q rest (a.put o.dst v') w') : wpList P ops Q (o :: rest) a (w.alloc (.cells #[u] T)) := by
 obtain ⟨i, hi, hz, hsz, hby⟩ := hI
 refine wpList_append_lies (w.alloc (.cells #[u] T)) hgd s x t ho base T i (.slice none 0 0) 1 24 hT hi hz hsz hby rfl (by omega) v vs.length vs hs (World.ownsRow.alloc hown _) ⟨w.heap.size, 0, none⟩ 1 1 [u] hx rfl ?_ ?_ (by omega) (by unfold maxLen; omega) (by omega) (by simp; omega) _ rfl ?_
 ·exact World.news_of_block (heap_alloc_new w _)
 ·intro u' hu'
  obtain rfl := List.mem_singleton.1 hu'
  exact hu
 ·intro g cap w' g1 g2 g3 g4
  have h5 : w.grownBy w' v.ownBlock := grown_trans (World.grownBy_alloc w _ _) g2
  refine h _ w' (by unfold RowV; rw [List.length_append]; exact g1) ((Below.refl base w).grown h5 hbase hown.base_le) ?_
  refine ⟨?_, h5, fun k hk hne e1 => ?_⟩
  ·intro k q l hq hf
   refine ⟨hq.farKept hf h5, ?_⟩
   rintro ad n c rfl hn
   rcases g3 with h3 | h3
   ·have := hf ad n c rfl hn
    rw [h3] at this
    exact this
   ·subst h3
    intro e1
    have e2 : ad.block = (w.alloc (.cells #[u] T)).heap.size := by simpa [Value.ownBlock] using e1
    obtain ⟨A, c', e3, k1, k2, k3⟩ := hq
    injection e3 with e3 e4 e5
    subst e3; subst e4
    obtain ⟨ad', he, hc⟩ := k3 0 _ (List.getElem?_eq_getElem hn)
    injection he with he; subst he
    have h6 := World.block_lt_of_cell? w _ hc
    rw [Go.ChangeShapes.block_add] at h6
    simp at e2
    omega
  ·have e2 : g = k := by simpa [Value.ownBlock] using e1
   subst e2
   rcases g3 with h3 | h3
   ·exact hne h3
   ·simp at h3; omega
end
/-- Two rows of the call's own, of the same fractions, limbs in new memory. -/
def RetFewW (n : Nat) (w : World) (e : Ending) (w' : World) : Prop := ∃ V U ps rs, e = .returned (.tuple #[V, U]) ∧ TwoRows w w' V U ps rs ∧ NewL w.heap.size ps ∧ NewL w.heap.size rs ∧ rs.map (·.1) = ps.map (·.1) ∧ ps.length = n ∧ (∀ p ∈ ps, lenQ p.1 1)
set_option maxHeartbeats 6400000 in
set_option maxRecDepth 100000 in
theorem few11_two (A0 : Option Addr) (n0 c0 M : Nat) (w : World) (h0 : ArgQs w (.slice A0 n0 c0)) (hM : M ≤ 8) :
  Calls Tryz.prog 32 #[.slice A0 n0 c0, .int .i64 (M : Int)] w (RetFewW (min n0 M) w) := by
 obtain ⟨A0_, n0_, c0_, e_, hn0, hc0, hel⟩ := h0
 injection e_ with e1_ e2_ e3_
 subst e1_
 subst e2_
 subst e3_
 have HEL := Lib.hid hel
 clear hel
 unfold maxLen at hc0
 have bb : Below w.heap.size w w := Below.refl _ _
 go_enter Tryz.func32, Tryz.ntmps32
 go_wp2
 go_loopw [6, 7, 8] (fun v4 v5 v6 wr => ∃ (k : Nat) (ps rs : List Elt), k ≤ M ∧ k ≤ n0 ∧ Hid (ps.length = k) ∧ Hid (rs.map (·.1) = ps.map (·.1)) ∧ Hid (∀ p ∈ ps, lenQ p.1 1) ∧ TwoRows w wr v4 v5 ps rs ∧ NewL w.heap.size ps ∧ NewL w.heap.size rs ∧ v6 = .int .i64 (k : Int)) (fun _ _ v6 _ => M - (intOf v6).toNat)
 case atStart =>
  have r0 := rowF_lit0 44 w w.heap.size (Nat.le_refl _)
  have r1 := rowF_lit0 55 (w.alloc (.cells #[] 44)) w.heap.size (by simp)
  have r0' := r0.below (below_alloc (Nat.le_refl _) (.cells #[] 55))
  refine ⟨0, [], [], by omega, by omega, rfl, rfl, (by show ∀ p ∈ _, _; intro p hp; cases hp), ⟨r0', ?_, ⟨FarF.nil _ _ _ _, FarF.nil _ _ _ _⟩, ⟨FarF.nil _ _ _ _, FarF.nil _ _ _ _⟩, ?_, (below_alloc (Nat.le_refl _) _).alloc (by simp) _⟩, NewL.nil _, NewL.nil _, rfl⟩
  ·simpa using r1
  ·intro g h1 h2
   simp [Value.ownBlock] at h1 h2
   omega
 case round =>
  obtain ⟨k, ps, rs, hk8, hkn, HPL, HRP, HLQ, hTR, hNP, hNR, rfl⟩ := hrel
  obtain ⟨u4, hu4⟩ : ∃ u4, u4 = u6 := ⟨_, rfl⟩
  obtain ⟨u5, hu5⟩ : ∃ u5, u5 = u7 := ⟨_, rfl⟩
  subst hu4
  subst hu5
  have bb' := hTR.2.2.2.2.2
  clear bb
  have bb := bb'
  clear bb'
  by_cases hlt : k < n0 ∧ k < M
  ·obtain ⟨hlt1, hlt2⟩ := hlt
   obtain ⟨ad, b, ue, te, l, m, hA0, e0, e1, e2, hu, lu, ht, lt⟩ := HEL.out k hlt1
   subst hA0
   obtain ⟨Ae, ce, rfl, _⟩ := id hu
   obtain ⟨De, ee, rfl, _⟩ := id ht
   replace e0 := (bb.cell (World.block_lt_of_cell? w _ e0)).trans e0
   replace e1 := (bb.cell (World.block_lt_of_cell? w _ e1)).trans e1
   replace e2 := (bb.cell (World.block_lt_of_cell? w _ e2)).trans e2
   replace hu := hu.below bb
   replace ht := ht.below bb
   obtain ⟨q, hq⟩ : ∃ q, q = cleanQ b l m 1 := ⟨_, rfl⟩
   have lq : lenQ q 1 := by rw [hq]; exact cleanQ_len _ _ _ (by omega)
   have HQ := Lib.hid hq.symm
   clear hq
   have bl : Below wr.heap.size wr wr := Below.refl _ _
   have hszr := bb.size
   go_upto_region 5 with (fail)
   refine flowp 6 [Pd.eq (.slice (some ad) n0 c0), Pd.eq (.int .i64 (k : Int)), Pd.eq (.pointer (some (ad.add (k * 3)))), Pd.eq (.agg #[.bool b, .slice Ae l.length ce, .slice De m.length ee]), pq (q) wr.heap.size, pn 44 #[.bool false, .slice none 0 0, .slice none 0 0] wr.heap.size] (by kernel_rfl) ?ob1 ?done1
   case ob1 =>
    refine And.intro (ob_move rfl (wt_none rfl) (ev_far rfl rfl) (fun _ _ h => h)) ?_
    refine And.intro (ob_move rfl (wt_none rfl) (ev_far rfl rfl) (fun _ _ h => h)) ?_
    refine And.intro (ob_indexAddr rfl (wt_none rfl) (ev_dep (j := 0) (by kernel_rfl) rfl rfl) (ev_dep (j := 1) (by kernel_rfl) rfl rfl) (fun _ _ _ hx hy => ⟨_, by rw [hx, hy]; exact index3_any Tryz.underlying64 (by kernel_rfl) ad hlt1 _, rfl⟩)) ?_
    refine And.intro (ob_load rfl (wt_none rfl) (ev_dep (j := 2) (by kernel_rfl) rfl rfl) (fun w2 hb => load3_any Tryz.underlying44 rfl (by kernel_rfl) ((hb.cell (World.block_lt_of_cell? wr _ e0)).trans e0) ((hb.cell (World.block_lt_of_cell? wr _ e1)).trans e1) ((hb.cell (World.block_lt_of_cell? wr _ e2)).trans e2)) (fun _ _ => rfl)) ?_
    refine And.intro (ob_call2 rfl Tryz.func66 (by kernel_rfl) (wt_none rfl) (ev_dep (j := 3) (by kernel_rfl) rfl rfl) (ev_const _) (fun w2 u0 u1 hb h0 h1 => by obtain rfl := h0; obtain rfl := h1; exact (HQ.out ▸ qclean_any b _ _ l m 1 1 _ rfl (hu.below hb) lu (ht.below hb) lt (by omega) (by omega)).mono fun e w3 h => RetQ.pd h hb.size)) ?_
    refine And.intro (ob_alloc (z := .agg #[.bool false, .slice none 0 0, .slice none 0 0]) rfl rfl (fun _ => by kernel_rfl) (fun _ _ hB h => ⟨_, rfl, hB, h⟩)) ?_
    trivial
   case done1 =>
    refine fun w2 hb2 v0 h0 v1 h1 v2 h2 v3 h3 v4 h4 v5 h5 d5 b hbf => ?_
    obtain rfl := h0; obtain rfl := h1; obtain rfl := h2; obtain rfl := h3
    obtain ⟨q4, f4⟩ := h4
    obtain ⟨g1_5, rfl, hg5, B5⟩ := h5
    simp only [Act.put, List.setIfInBounds_toArray, List.set_cons_zero, List.set_cons_succ] at hbf
    subst hbf
    replace bb := bb.trans (hb2.mono bb.size)
    have hsz2 := bb.size
    replace bl := bl.trans (hb2.mono bl.size)
    have BA9 := B5
    obtain ⟨u4, t4, rfl, q4, d4⟩ := q4
    obtain ⟨A7, c7, rfl, _⟩ := id q4
    obtain ⟨D7, e7, rfl, _⟩ := id d4
    refine ops_store (i := 6) rfl rfl rfl rfl rfl rfl (cells := [.bool (ngB (q).num), .slice A7 (digs 4294967296 (q).num.natAbs).length c7, .slice D7 (digs 4294967296 (q).den).length e7]) rfl BA9 rfl (by kernel_rfl) (one3 rfl rfl rfl) fun w3 hg3 BN3 => ?_
    replace q4 := off q4 BA9 no_ints3 hg3
    replace d4 := off d4 BA9 no_ints3 hg3
    replace bb := bb.trans ((Below.refl _ _).grown hg3 bb.size (fun g hg => by injection hg with hg; omega))
    have hsz3 := bb.size
    have B7 : Blk w3 (g1_5) _ _ := BN3
    have k7s := q4
    have k7d := d4
    have k7z : IsZ w3 (.agg #[.bool (ngB (q).num), .slice A7 (digs 4294967296 (q).num.natAbs).length c7]) ((q).num) := ⟨_, rfl, k7s⟩
    have k7 : IsQ w3 (.agg #[.bool (ngB (q).num), .slice A7 (digs 4294967296 (q).num.natAbs).length c7, .slice D7 (digs 4294967296 (q).den).length e7]) (q) := ⟨_, _, rfl, k7s, k7d⟩
    have hq_ := bl.size
    replace bl := bl.trans ((Below.refl _ _).grown hg3 bl.size (fun g hg => by injection hg with hg; omega))
    clear hq_
    refine ops_done ?_
    have g1 := (f4 _ _ _ rfl).1
    have g2 := (f4 _ _ _ rfl).2
    have under4 := hTR.1.under
    have under5 := hTR.2.1.under
    have far4 : Far u4 (.slice A7 (digs 4294967296 (q).num.natAbs).length c7) ∧ Far u4 (.slice D7 (digs 4294967296 (q).den).length e7) := ⟨g1.far under4, g2.far under4⟩
    have far5 : Far u5 (.slice A7 (digs 4294967296 (q).num.natAbs).length c7) ∧ Far u5 (.slice D7 (digs 4294967296 (q).den).length e7) := ⟨g1.far under5, g2.far under5⟩
    have hT2 := hTR.below bl
    have HT2 := Lib.hid hT2
    have hr4 : RowF 44 w3 w.heap.size u4 ps := hT2.1
    have hszT : w.heap.size ≤ w3.heap.size := hT2.2.2.2.2.2.size
    have hne4 : u4.ownBlock ≠ some g1_5 := fun e => by have := under4 _ e; omega
    obtain ⟨x70, x71, x72, _, _, _⟩ := three B7
    obtain ⟨P1, hP1⟩ : ∃ P1 : Elt, P1 = (q, .slice A7 (digs 4294967296 (q).num.natAbs).length c7, .slice D7 (digs 4294967296 (q).den).length e7) := ⟨_, rfl⟩
    have HP1 := Lib.hid hP1
    have k7d_ : IsE .u64 4294967296 w3 (q, .slice A7 (digs 4294967296 (q).num.natAbs).length c7, .slice D7 (digs 4294967296 (q).den).length e7) := ⟨k7s, k7d⟩
    have lq3 : lenQ q 30000 := ⟨Nat.le_trans lq.1 (by decide), Nat.le_trans lq.2 (by decide)⟩
    have HL8 : Hid (ps.length ≤ 1000000000 ∧ rs.length ≤ 1000000000) := by
     have h1 := HPL.out
     have h2 := congrArg List.length HRP.out
     rw [List.length_map, List.length_map] at h2
     exact ⟨by omega, by omega⟩
    clear hT2 hTR e0 e1 e2 hu ht lu lt hP1
    obtain ⟨cA0, cA1, cA2⟩ := new_cells w3 44 (.bool (ngB (q).num)) (.slice A7 (digs 4294967296 (q).num.natAbs).length c7) (.slice D7 (digs 4294967296 (q).den).length e7)
    have bA := below_alloc (w := w3) (Nat.le_refl _) (.cells #[.bool (ngB (q).num), .slice A7 (digs 4294967296 (q).num.natAbs).length c7, .slice D7 (digs 4294967296 (q).den).length e7] 44)
    obtain ⟨wA, hwA⟩ : ∃ wA, wA = w3.alloc (.cells #[.bool (ngB (q).num), .slice A7 (digs 4294967296 (q).num.natAbs).length c7, .slice D7 (digs 4294967296 (q).den).length e7] 44) := ⟨_, rfl⟩
    have HWA := Lib.hid hwA
    rw [← hwA] at cA0 cA1 cA2 bA
    replace bA := bA.drew
    have rA := hr4.below bA
    have eA := k7d_.below bA
    have tA := HT2.out.below bA
    have BA_ := B7.below bA
    have hszA : w.heap.size ≤ wA.drew.heap.size := tA.2.2.2.2.2.size
    have TA := Lib.hid tA
    clear tA
    subst hwA
    obtain ⟨xA0, xA1, xA2, _, _, _⟩ := three BA_
    go_upto_region 6 with (fail)
    go_region_law (first
     | (refine step_append_q rfl (.tmp 28) (.tmp 30) rfl Tryz.underlying64 info_rat (v := u4) (p := (q, .slice A7 (digs 4294967296 (q).num.natAbs).length c7, .slice D7 (digs 4294967296 (q).den).length e7)) (ps := ps) (by rfl) (by exact rA) (ad := ⟨w3.heap.size, 0, none⟩) (c := 1) (by rfl) (by exact cA0) (by exact cA1) (by exact cA2) rfl rfl HL8.out.1 (by exact hszA) ?_; intro v5 w5 row5 bb5 HK5; have T5 := Lib.hid (TA.out.one row5 HK5.out bb5 eA far4 far5); have s5 := (HK5.out.1 _ _ _ eA.1 far4.1).1; have d5 := (HK5.out.1 _ _ _ eA.2 far4.2).1; have B5_ := BA_.other HK5.out.2.1 hne4; obtain ⟨x50, x51, x52, _, _, _⟩ := three B5_)
     | (go_simp; go_at_call 67; refine (qoff_any _ q _ ⟨_, _, rfl, (by exact s5), (by exact d5)⟩ lq3).mono ?_; rintro e w6 ⟨v6, rfl, k6, f6, b6⟩; have T6 := Lib.hid (T5.out.below b6); have row6 := T6.out.2.1; obtain ⟨u6, t6, rfl, q6, d6⟩ := k6; obtain ⟨A6, c6, rfl, _⟩ := id q6; obtain ⟨D6, e6, rfl, _⟩ := id d6; have hsz6 : w.heap.size ≤ w6.heap.size := T6.out.2.2.2.2.2.size; obtain ⟨cC0, cC1, cC2⟩ := new_cells w6 55 (.bool (ngB (q).num)) (.slice A6 (digs 10000 (q).num.natAbs).length c6) (.slice D6 (digs 10000 (q).den).length e6); have rC := row6.below (below_alloc (Nat.le_refl _) (.cells #[.bool (ngB (q).num), .slice A6 (digs 10000 (q).num.natAbs).length c6, .slice D6 (digs 10000 (q).den).length e6] 55)); have hszC := Nat.le_trans hsz6 (below_alloc (w := w6) (Nat.le_refl _) (.cells #[.bool (ngB (q).num), .slice A6 (digs 10000 (q).num.natAbs).length c6, .slice D6 (digs 10000 (q).den).length e6] 55)).size)
     | (refine step_append_q rfl (.tmp 32) (.tmp 35) rfl Tryz.underlying70 info_q (v := u5) (p := (q, .slice A6 (digs 10000 (q).num.natAbs).length c6, .slice D6 (digs 10000 (q).den).length e6)) (ps := rs) (by rfl) (by exact rC) (ad := ⟨w6.heap.size, 0, none⟩) (c := 1) (by rfl) (by exact cC0) (by exact cC1) (by exact cC2) rfl rfl HL8.out.2 (by exact hszC) ?_; intro v7 w7 row7 bb7 HK7))
    all_goals
     have ba6 := below_alloc (w := w6) (Nat.le_refl _) (.cells #[.bool (ngB (q).num), .slice A6 (digs 10000 (q).num.natAbs).length c6, .slice D6 (digs 10000 (q).den).length e6] 55)
     have TC := T6.out.below ba6
     have EC : IsE .i64 10000 (w6.alloc (.cells #[.bool (ngB (q).num), .slice A6 (digs 10000 (q).num.natAbs).length c6, .slice D6 (digs 10000 (q).den).length e6] 55)) (q, .slice A6 (digs 10000 (q).num.natAbs).length c6, .slice D6 (digs 10000 (q).den).length e6) := ⟨q6.below ba6, d6.below ba6⟩
     have j1 := (f6 _ _ _ rfl).1
     have j2 := (f6 _ _ _ rfl).2
     have n4 := T5.out.1.under
     have n5 := T5.out.2.1.under
     have T7 := TC.two row7 HK7.out bb7 EC ⟨j1.far n4, j2.far n4⟩ ⟨j1.far n5, j2.far n5⟩
     have NP7 := hNP.snoc (p := (q, .slice A7 (digs 4294967296 (q).num.natAbs).length c7, .slice D7 (digs 4294967296 (q).den).length e7)) (g1.mono hszr) (g2.mono hszr)
     have hs5 : w.heap.size ≤ w5.heap.size := T5.out.2.2.2.2.2.size
     have NR7 := hNR.snoc (p := (q, .slice A6 (digs 10000 (q).num.natAbs).length c6, .slice D6 (digs 10000 (q).den).length e6)) (j1.mono hs5) (j2.mono hs5)
     have HPL7 : Hid ((ps ++ [((q, .slice A7 (digs 4294967296 (q).num.natAbs).length c7, .slice D7 (digs 4294967296 (q).den).length e7) : Elt)]).length = k + 1) := by show _ = _; rw [List.length_append, HPL.out]; rfl
     have HRP7 : Hid ((rs ++ [((q, .slice A6 (digs 10000 (q).num.natAbs).length c6, .slice D6 (digs 10000 (q).den).length e6) : Elt)]).map (·.1) = (ps ++ [((q, .slice A7 (digs 4294967296 (q).num.natAbs).length c7, .slice D7 (digs 4294967296 (q).den).length e7) : Elt)]).map (·.1)) := by show _ = _; rw [List.map_append, List.map_append, HRP.out]; rfl
     have HLQ7 : Hid (∀ p ∈ ps ++ [((q, .slice A7 (digs 4294967296 (q).num.natAbs).length c7, .slice D7 (digs 4294967296 (q).den).length e7) : Elt)], lenQ p.1 1) := fun p hp => by
      rcases List.mem_append.1 hp with hp | hp
      ·exact HLQ.out p hp
      ·rw [List.mem_singleton.1 hp]; exact lq
     have hme : M - (k + 1) < M - k := by omega
     go_wp2
     go_roundw
     case rel => exact ⟨k + 1, _, _, by omega, by omega, HPL7, HRP7, HLQ7, T7, NP7, NR7, rfl⟩
     case measure => exact hme
  ·have HEND : Hid (TwoRows w wr u4 u5 ps rs ∧ NewL w.heap.size ps ∧ NewL w.heap.size rs ∧ rs.map (·.1) = ps.map (·.1) ∧ ps.length = min n0 M ∧ (∀ p ∈ ps, lenQ p.1 1)) := ⟨hTR, hNP, hNR, HRP.out, by rw [HPL.out]; omega, HLQ.out⟩
   clear hTR HRP HLQ HPL hNP hNR
   have hx : ¬ k < n0 ∨ (k < n0 ∧ ¬ k < M) := by omega
   rcases hx with hx | ⟨hx1, hx2⟩
   all_goals
    go_wp2
    go_ret2
    exact ⟨_, _, ps, rs, rfl, HEND.out.1, HEND.out.2.1, HEND.out.2.2.1, HEND.out.2.2.2.1, HEND.out.2.2.2.2.1, HEND.out.2.2.2.2.2⟩
theorem RowF.weak {T : TypeId} {w : World} {base base' : Nat} {v : Value} {ps : List Elt} (h : RowF T w base v ps) (hb : base' ≤ base) : RowF T w base' v ps := by
 refine ⟨h.1, ?_⟩
 rcases h.2 with h2 | ⟨g, cap, cur, e, h1, h2⟩
 ·exact .inl h2
 ·exact .inr ⟨g, cap, cur, e, Nat.le_trans hb h1, h2⟩
/-- A table whose rows the call owns, each in a block of its own, whatever its elements' limbs are. -/
structure TabK (T : TypeId) (w : World) (base : Nat) (TS : TypeId) (V : Value) (us : List Value) (pss : List (List Elt)) : Prop where
 row : RowV w base TS V us
 len : us.length = pss.length
 own : ∀ (i : Nat) (u : Value) (ps : List Elt), us[i]? = some u → pss[i]? = some ps → RowF T w base u ps
 apart : ∀ (i j : Nat) (u v : Value), i ≠ j → us[i]? = some u → us[j]? = some v → ∀ h, u.ownBlock = some h → v.ownBlock ≠ some h
theorem TabO.k {k : IntKind} {B : Nat} {T : TypeId} {w : World} {base : Nat} {TS : TypeId} {V : Value} {us : List Value} {pss : List (List Elt)} (h : TabO k B T w base TS V us pss) : TabK T w base TS V us pss := ⟨h.row, h.len, h.own, h.apart⟩
theorem TabK.mem {T : TypeId} {w : World} {base : Nat} {TS : TypeId} {V : Value} {us : List Value} {pss : List (List Elt)} (h : TabK T w base TS V us pss) {u : Value} (hu : u ∈ us) : ∃ ps, RowF T w base u ps := by
 obtain ⟨i, hi⟩ := List.mem_iff_getElem?.1 hu
 have hp : pss[i]? = some (pss[i]'(by rw [← h.len]; exact (List.getElem?_eq_some_iff.1 hi).1)) := List.getElem?_eq_getElem _
 exact ⟨_, h.own i u _ hi hp⟩
theorem RowV.kept {w w' : World} {base : Nat} {TS : TypeId} {V : Value} {us : List Value} {row : Option Nat} (h : RowV w base TS V us) (hg : w.grownBy w' row) (hV : ∀ g, V.ownBlock = some g → row ≠ some g) : RowV w' base TS V us :=
 World.ownsRow.kept (row := row) h hg (by
  cases hv : V.ownBlock with
  | none => exact .inl rfl
  | some g => exact .inr fun e => hV g hv e.symm)
theorem TabK.kept {T : TypeId} {w w' : World} {base : Nat} {TS : TypeId} {V : Value} {us : List Value} {pss : List (List Elt)} {row : Option Nat} (h : TabK T w base TS V us pss) (hg : w.grownBy w' row) (hV : ∀ g, V.ownBlock = some g → row ≠ some g) (hu : ∀ u ∈ us, ∀ g, u.ownBlock = some g → row ≠ some g) : TabK T w' base TS V us pss :=
 ⟨RowV.kept h.row hg hV, h.len, fun i u ps hi hp => (h.own i u ps hi hp).other hg (fun g e => hu u (List.mem_of_getElem? hi) g e), h.apart⟩
theorem TabO.kept {k : IntKind} {B : Nat} {T : TypeId} {w w' : World} {base : Nat} {TS : TypeId} {V : Value} {us : List Value} {pss : List (List Elt)} {row : Option Nat} (h : TabO k B T w base TS V us pss) (hg : w.grownBy w' row) (hV : ∀ g, V.ownBlock = some g → row ≠ some g) (hu : ∀ u ∈ us, ∀ g, u.ownBlock = some g → row ≠ some g)
  (hf : ∀ ps ∈ pss, ∀ p ∈ ps, (∀ ad n c, p.2.1 = .slice (some ad) n c → 0 < n → some ad.block ≠ row) ∧ (∀ ad n c, p.2.2 = .slice (some ad) n c → 0 < n → some ad.block ≠ row)) : TabO k B T w' base TS V us pss := by
 have hk := h.k.kept hg hV hu
 refine ⟨hk.row, hk.len, hk.own, fun u hu' ps hp p hpp => ?_, fun ps hp p hpp => ?_, hk.apart⟩
 ·obtain ⟨e1, f1⟩ := h.far u hu' ps hp p hpp
  exact ⟨⟨e1.1.farKept (hf ps hp p hpp).1 hg, e1.2.farKept (hf ps hp p hpp).2 hg⟩, f1⟩
 ·obtain ⟨e1, f1⟩ := h.farV ps hp p hpp
  exact ⟨⟨e1.1.farKept (hf ps hp p hpp).1 hg, e1.2.farKept (hf ps hp p hpp).2 hg⟩, f1⟩
/-- A row of the call's own is put behind the others. -/
theorem TabO.snoc {k : IntKind} {B : Nat} {T : TypeId} {w w' : World} {base : Nat} {TS : TypeId} {V V' u : Value} {us : List Value} {pss : List (List Elt)} {ps : List Elt} (hT : T ≠ TS) (h : TabO k B T w base TS V us pss) (hrow : RowV w' base TS V' (us ++ [u])) (hg : Grew w w' V V') (hu : RowF T w base u ps)
  (hap : ∀ v ∈ us, ∀ g, v.ownBlock = some g → u.ownBlock ≠ some g) (hf1 : FarF k B w u ps) (hf2 : ∀ v ∈ us, ∀ p ∈ ps, Far v p.2.1 ∧ Far v p.2.2) (hf3 : ∀ p ∈ ps, Far V p.2.1 ∧ Far V p.2.2) (hf4 : ∀ qs ∈ pss, ∀ p ∈ qs, Far u p.2.1 ∧ Far u p.2.2) : TabO k B T w' base TS V' (us ++ [u]) (pss ++ [ps]) := by
 obtain ⟨k1, k2, k3⟩ := hg
 have hlen := h.len
 have own' : ∀ {v : Value} {qs : List Elt}, RowF T w base v qs → RowF T w' base v qs := fun r => r.other k2 fun g e e2 => r.notRow h.row hT g e e2
 have at_ : ∀ {i : Nat} {v : Value}, (us ++ [u])[i]? = some v → (us[i]? = some v ∧ i < us.length) ∨ (i = us.length ∧ v = u) := by
  intro i v hi
  by_cases hl : i < us.length
  ·rw [List.getElem?_append_left hl] at hi
   exact .inl ⟨hi, hl⟩
  ·rw [List.getElem?_append_right (by omega)] at hi
   rcases hj : i - us.length with _ | j
   ·rw [hj] at hi
    refine .inr ⟨by omega, ?_⟩
    simpa using hi.symm
   ·rw [hj] at hi; simp at hi
 have all : ∀ qs ∈ pss ++ [ps], ∀ p ∈ qs, (IsE k B w' p ∧ Far V' p.2.1 ∧ Far V' p.2.2) ∧ (∀ v ∈ us, Far v p.2.1 ∧ Far v p.2.2) ∧ Far u p.2.1 ∧ Far u p.2.2 := by
  intro qs hqs p hp
  have main : IsE k B w p → Far V p.2.1 → Far V p.2.2 → IsE k B w' p ∧ Far V' p.2.1 ∧ Far V' p.2.2 := fun a b c => by
   have x1 := k1 _ _ _ a.1 b
   have x2 := k1 _ _ _ a.2 c
   exact ⟨⟨x1.1, x2.1⟩, x1.2, x2.2⟩
  rcases List.mem_append.1 hqs with hqs | hqs
  ·obtain ⟨e1, f1, f2⟩ := h.farV qs hqs p hp
   exact ⟨main e1 f1 f2, fun v hv => (h.far v hv qs hqs p hp).2, hf4 qs hqs p hp⟩
  ·rw [List.mem_singleton.1 hqs] at hp
   obtain ⟨e1, f1, f2⟩ := hf1 p hp
   exact ⟨main e1 (hf3 p hp).1 (hf3 p hp).2, fun v hv => hf2 v hv p hp, f1, f2⟩
 refine ⟨hrow, by rw [List.length_append, List.length_append, hlen]; rfl, fun i v qs hv hq => ?_, fun v hv qs hqs p hp => ?_, fun qs hqs p hp => (all qs hqs p hp).1, fun i j a b hij ha hb g hga hgb => ?_⟩
 ·rcases at_ hv with ⟨hv, hl⟩ | ⟨rfl, rfl⟩
  ·rw [List.getElem?_append_left (by omega)] at hq
   exact own' (h.own i v qs hv hq)
  ·rw [List.getElem?_append_right (by omega), hlen, Nat.sub_self] at hq
   obtain rfl : ps = qs := by simpa using hq
   exact own' hu
 ·refine ⟨(all qs hqs p hp).1.1, ?_⟩
  rcases List.mem_append.1 hv with hv | hv
  ·exact (all qs hqs p hp).2.1 v hv
  ·rw [List.mem_singleton.1 hv]; exact (all qs hqs p hp).2.2
 ·rcases at_ ha with ⟨ha1, hl⟩ | ⟨hi, rfl⟩
  ·rcases at_ hb with ⟨hb1, hl2⟩ | ⟨hj, rfl⟩
   ·exact h.apart i j a b hij ha1 hb1 g hga hgb
   ·exact hap a (List.mem_of_getElem? ha1) g hga hgb
  ·rcases at_ hb with ⟨hb1, hl2⟩ | ⟨hj, rfl⟩
   ·exact hap b (List.mem_of_getElem? hb1) g hgb hga
   ·exact hij (by omega)
set_option linter.unusedSimpArgs false
theorem ArgT.shape {w : World} {v : Value} (h : ArgT w v) : ∃ A n c, v = .slice A n c ∧ n ≤ c ∧ c ≤ maxLen := by
 obtain ⟨A, n, c, e, h1, h2, _⟩ := h
 exact ⟨A, n, c, e, h1, h2⟩
theorem RowV.notV {w : World} {base base' : Nat} {TS TS' : TypeId} {V U : Value} {us vs : List Value} (h : RowV w base TS V us) (h' : RowV w base' TS' U vs) (hne : TS ≠ TS') : ∀ g, V.ownBlock = some g → U.ownBlock ≠ some g := by
 intro g e e2
 rcases h.2 with ⟨rfl, _⟩ | ⟨g', cap, cur, rfl, _, hg, _⟩
 ·cases e
 ·rcases h'.2 with ⟨rfl, _⟩ | ⟨g2, cap2, cur2, rfl, _, hg2, _⟩
  ·cases e2
  ·have e1 : g' = g := by simpa [Value.ownBlock] using e
   have e3 : g2 = g := by simpa [Value.ownBlock] using e2
   subst e1; subst e3
   rw [hg] at hg2
   injection hg2 with hg2
   injection hg2 with _ hg2
   exact hne hg2
theorem RowV.slice {w : World} {base : Nat} {TS : TypeId} {V : Value} {us : List Value} (h : RowV w base TS V us) : ∃ A c, V = .slice A us.length c := by
 rcases h.2 with ⟨e, h0⟩ | ⟨g, cap, cur, e, _⟩
 ·exact ⟨none, 0, by rw [e, h0]⟩
 ·exact ⟨_, _, e⟩
/-- Two tables that grow side by side: each one's limbs lie elsewhere than both tables and all rows. -/
structure TwoTabO (w wr : World) (V U : Value) (us vs : List Value) (pss qss : List (List Elt)) : Prop where
 p : TabO .u64 4294967296 44 wr w.heap.size 64 V us pss
 q : TabO .i64 10000 55 wr w.heap.size 70 U vs qss
 c1 : ∀ ps ∈ pss, ∀ p ∈ ps, (∀ v ∈ vs, Far v p.2.1 ∧ Far v p.2.2) ∧ Far U p.2.1 ∧ Far U p.2.2
 c2 : ∀ qs ∈ qss, ∀ p ∈ qs, (∀ v ∈ us, Far v p.2.1 ∧ Far v p.2.2) ∧ Far V p.2.1 ∧ Far V p.2.2
 below : Below w.heap.size w wr
theorem TwoTabO.step {w wr w2 w3 w4 : World} {V U a b V3 U4 : Value} {us vs : List Value} {pss qss : List (List Elt)} {ps rs : List Elt} (h : TwoTabO w wr V U us vs pss qss) (hT : TwoRows wr w2 a b ps rs) (n1 : NewL wr.heap.size ps) (n2 : NewL wr.heap.size rs) (r3 : RowV w3 w.heap.size 64 V3 (us ++ [a])) (g3 : Grew w2 w3 V V3) (b3 : Below w.heap.size w2 w3) (r4 : RowV w4 w.heap.size 70 U4 (vs ++ [b])) (g4 : Grew w3 w4 U U4) (b4 : Below w.heap.size w3 w4) :
  TwoTabO w w4 V3 U4 (us ++ [a]) (vs ++ [b]) (pss ++ [ps]) (qss ++ [rs]) := by
 obtain ⟨t1, t2, ⟨t3, t4⟩, ⟨t5, t6⟩, t7, b2⟩ := hT
 have hw : w.heap.size ≤ wr.heap.size := h.below.size
 have pu : ∀ v ∈ us, ∀ g, v.ownBlock = some g → g < wr.heap.size := fun v hv g e => by
  obtain ⟨qs, hq⟩ := h.p.k.mem hv
  exact hq.under g e
 have qu : ∀ v ∈ vs, ∀ g, v.ownBlock = some g → g < wr.heap.size := fun v hv g e => by
  obtain ⟨qs, hq⟩ := h.q.k.mem hv
  exact hq.under g e
 have pV := h.p.row.under
 have qU := h.q.row.under
 have a0 := t1.base_le
 have b0 := t2.base_le
 have p2 := h.p.below b2
 have q2 := h.q.below b2
 have oldp : ∀ qs ∈ pss, ∀ p ∈ qs, IsE .u64 4294967296 wr p := fun qs hq p hp => (h.p.farV qs hq p hp).1
 have oldq : ∀ qs ∈ qss, ∀ p ∈ qs, IsE .i64 10000 wr p := fun qs hq p hp => (h.q.farV qs hq p hp).1
 have P3 := p2.snoc (by decide) r3 g3 (t1.weak hw) (fun v hv g e e2 => by have := pu v hv g e; have := a0 g e2; omega) t3 (fun v hv => n1.far (pu v hv)) (n1.far pV) (fun qs hq p hp => ⟨(oldp qs hq p hp).1.farOld a0, (oldp qs hq p hp).2.farOld a0⟩)
 have Q3 := q2.kept g3.2.1 (fun g e e2 => RowV.notV p2.row q2.row (by decide) g e2 e) (fun v hv g e e2 => by
  obtain ⟨qs, hq⟩ := q2.k.mem hv
  exact hq.notRow p2.row (by decide) g e e2) (fun qs hq p hp => ⟨(h.c2 qs hq p hp).2.1, (h.c2 qs hq p hp).2.2⟩)
 have hb3 : RowF 55 w3 wr.heap.size b rs := t2.other g3.2.1 fun g e e2 => t2.notRow p2.row (by decide) g e e2
 have n2V := n2.far pV
 have e3 : ∀ p ∈ rs, IsE .i64 10000 w3 p ∧ Far V3 p.2.1 ∧ Far V3 p.2.2 := fun p hp => by
  have x1 := g3.1 _ _ _ (t6 p hp).1.1 (n2V p hp).1
  have x2 := g3.1 _ _ _ (t6 p hp).1.2 (n2V p hp).2
  exact ⟨⟨x1.1, x2.1⟩, x1.2, x2.2⟩
 have Q4 := Q3.snoc (by decide) r4 g4 (hb3.weak hw) (fun v hv g e e2 => by have := qu v hv g e; have := b0 g e2; omega) (fun p hp => ⟨(e3 p hp).1, (t6 p hp).2⟩) (fun v hv => n2.far (qu v hv)) (n2.far qU) (fun qs hq p hp => ⟨(oldq qs hq p hp).1.farOld b0, (oldq qs hq p hp).2.farOld b0⟩)
 have n1U := n1.far qU
 have c1U : ∀ qs ∈ pss ++ [ps], ∀ p ∈ qs, Far U p.2.1 ∧ Far U p.2.2 := fun qs hq p hp => by
  rcases List.mem_append.1 hq with hq | hq
  ·exact (h.c1 qs hq p hp).2
  ·rw [List.mem_singleton.1 hq] at hp; exact n1U p hp
 have P4 := P3.kept g4.2.1 (fun g e e2 => RowV.notV P3.row Q3.row (by decide) g e e2) (fun v hv g e e2 => by
  obtain ⟨qs, hq⟩ := P3.k.mem hv
  exact hq.notRow Q3.row (by decide) g e e2) c1U
 refine ⟨P4, Q4, fun qs hq p hp => ?_, fun qs hq p hp => ?_, h.below.trans ((b2.mono hw).trans (b3.trans b4))⟩
 ·have eU : Far U4 p.2.1 ∧ Far U4 p.2.2 := by
   have e1 := (P3.farV qs hq p hp).1
   exact ⟨(g4.1 _ _ _ e1.1 (c1U qs hq p hp).1).2, (g4.1 _ _ _ e1.2 (c1U qs hq p hp).2).2⟩
  refine ⟨fun v hv => ?_, eU⟩
  rcases List.mem_append.1 hq with hq | hq
  ·rcases List.mem_append.1 hv with hv | hv
   ·exact (h.c1 qs hq p hp).1 v hv
   ·rw [List.mem_singleton.1 hv]; exact ⟨(oldp qs hq p hp).1.farOld b0, (oldp qs hq p hp).2.farOld b0⟩
  ·rw [List.mem_singleton.1 hq] at hp
   rcases List.mem_append.1 hv with hv | hv
   ·exact n1.far (qu v hv) p hp
   ·rw [List.mem_singleton.1 hv]; exact (t4 p hp).2
 ·rcases List.mem_append.1 hq with hq | hq
  ·have eV : Far V3 p.2.1 ∧ Far V3 p.2.2 := by
    have e1 := (q2.farV qs hq p hp).1
    have f := (h.c2 qs hq p hp).2
    exact ⟨(g3.1 _ _ _ e1.1 f.1).2, (g3.1 _ _ _ e1.2 f.2).2⟩
   refine ⟨fun v hv => ?_, eV⟩
   rcases List.mem_append.1 hv with hv | hv
   ·exact (h.c2 qs hq p hp).1 v hv
   ·rw [List.mem_singleton.1 hv]; exact ⟨(oldq qs hq p hp).1.farOld a0, (oldq qs hq p hp).2.farOld a0⟩
  ·rw [List.mem_singleton.1 hq] at hp
   refine ⟨fun v hv => ?_, (e3 p hp).2⟩
   rcases List.mem_append.1 hv with hv | hv
   ·exact n2.far (pu v hv) p hp
   ·rw [List.mem_singleton.1 hv]; exact (t5 p hp).2
/-- Two tables of the call's own, of the same small fractions, so many rows of so many places at most. -/
def RetFewX (M : Nat) (w : World) (e : Ending) (w' : World) : Prop := ∃ V U us vs pss qss, e = .returned (.tuple #[V, U]) ∧ TwoTabO w w' V U us vs pss qss ∧ valq qss = valq pss ∧ us.length ≤ M ∧ (∀ r ∈ valq pss, r.length ≤ M ∧ ∀ x ∈ r, lenQ x 1)
set_option maxHeartbeats 6400000 in
set_option maxRecDepth 100000 in
theorem fewt_own (a0 : Value) (M : Nat) (w : World) (h0 : ArgT w a0) (hM : M ≤ 8) :
  Calls Tryz.prog 6 #[a0, .int .i64 (M : Int)] w (RetFewX M w) := by
 have at0 := h0
 obtain ⟨A0, n0, c0, rfl, hc0, hm0⟩ := h0.shape
 unfold maxLen at hm0
 go_enter Tryz.func6, Tryz.ntmps6
 go_wp2
 go_loopw [6, 7, 8] (fun v6 v7 v8 wr => ∃ (k : Nat) (us vs : List Value) (pss qss : List (List Elt)), k ≤ n0 ∧ k ≤ M ∧ Hid (us.length = k) ∧ TwoTabO w wr v6 v7 us vs pss qss ∧ Hid (valq qss = valq pss) ∧ Hid (∀ r ∈ valq pss, r.length ≤ M ∧ ∀ x ∈ r, lenQ x 1) ∧ v8 = .int .i64 (k : Int)) (fun _ _ v8 _ => M - (intOf v8).toNat)
 case atStart =>
  have r0 := rowV_lit0 w w.heap.size 64 (Nat.le_refl _)
  have ba := below_alloc (w := w) (Nat.le_refl _) (.cells #[] 64)
  have r1 := rowV_lit0 (w.alloc (.cells #[] 64)) w.heap.size 70 ba.size
  have bb := below_alloc (w := w.alloc (.cells #[] 64)) (Nat.le_refl _) (.cells #[] 70)
  refine ⟨0, [], [], [], [], by omega, by omega, rfl, ⟨⟨r0.below bb, rfl, fun i u ps hu => by simp at hu, fun u hu => by simp at hu, fun u hu => by simp at hu, fun i j u v _ hu => by simp at hu⟩, ⟨?_, rfl, fun i u ps hu => by simp at hu, fun u hu => by simp at hu, fun u hu => by simp at hu, fun i j u v _ hu => by simp at hu⟩, fun ps hp => by simp at hp, fun ps hp => by simp at hp, ba.trans (bb.mono ba.size)⟩, rfl, (by show ∀ r ∈ _, _; intro r hr; simp [valq] at hr), rfl⟩
  simpa using r1
 case round =>
  obtain ⟨k, us, vs, pss, qss, hk, hkM, HUL, hT, HQP, HVL, rfl⟩ := hrel
  obtain ⟨A6, c6, e6⟩ := RowV.slice hT.p.row
  obtain ⟨A7, c7, e7⟩ := RowV.slice hT.q.row
  subst e6
  subst e7
  by_cases hlt : k < n0 ∧ k < M
  ·obtain ⟨hlt1, hlt2⟩ := hlt
   obtain ⟨A_, n_, c_, e_, _, _, hel⟩ := at0.below hT.below
   injection e_ with e1 e2 e3
   subst e1; subst e2; subst e3
   obtain ⟨ad, ue, rfl, ec, hq⟩ := hel k hlt1
   have HT := Lib.hid hT
   clear hel hT
   obtain ⟨Aq, nq, cq, rfl, _⟩ := id hq
   go_wp2_with fail
   refine (few11_two Aq nq cq M _ hq hM).mono ?_
   rintro e w2 ⟨a, b, ps, rs, rfl, hTR, n1, n2, hrs, hpl, hlq⟩
   have b2 := hTR.2.2.2.2.2
   have hw2 : w.heap.size ≤ w2.heap.size := Nat.le_trans HT.out.below.size b2.size
   have P2 := HT.out.p.row.below b2
   have Q2 := HT.out.q.row.below b2
   have HTR := Lib.hid hTR
   have HULb : Hid (us.length ≤ 1000000000 ∧ vs.length ≤ 1000000000) := by
    have h1 := HUL.out
    have h2 := congrArg List.length HQP.out
    rw [valq_len, valq_len, ← HT.out.q.len, ← HT.out.p.len] at h2
    exact ⟨by omega, by omega⟩
   obtain ⟨Aa, ca, ea, _⟩ := hTR.1.isVF
   obtain ⟨Ab, cb, eb, _⟩ := hTR.2.1.isVF
   subst ea
   subst eb
   have HPL := Lib.hid hpl
   clear hTR ec hpl
   go_wp2_with (first
    | (at_builtin; refine wpList_append_w rfl (.tmp 33) (.tmp 35) rfl Tryz.underlying22 info_vec rfl P2 rfl rfl HULb.out.1 hw2 ?_; intro V3 w3 row3 b3 K3; have Q3 : RowV w3 w.heap.size 70 (.slice A7 vs.length c7) vs := RowV.kept Q2 K3.out.2.1 (fun g e e2 => RowV.notV P2 Q2 (by decide) g e2 e); have hw3 : w.heap.size ≤ w3.heap.size := Nat.le_trans hw2 b3.size)
    | (at_builtin; refine wpList_append_w rfl (.tmp 37) (.tmp 39) rfl Tryz.underlying23 info_veq rfl Q3 rfl rfl HULb.out.2 hw3 ?_; intro U4 w4 row4 b4 K4))
   have T4 := HT.out.step HTR.out n1 n2 row3 K3.out b3 row4 K4.out b4
   have HUL4 : Hid ((us ++ [Value.slice Aa ps.length ca]).length = k + 1) := by show _ = _; rw [List.length_append, HUL.out]; rfl
   have HQP4 : Hid (valq (qss ++ [rs]) = valq (pss ++ [ps])) := by
    show _ = _
    have h1 := HQP.out
    unfold valq at h1 ⊢
    rw [List.map_append, List.map_append, h1, List.map_cons, List.map_cons, hrs]; try rfl
   have HVL4 : Hid (∀ r ∈ valq (pss ++ [ps]), r.length ≤ M ∧ ∀ x ∈ r, lenQ x 1) := by
    show ∀ r ∈ _, _
    intro r hr
    unfold valq at hr
    rw [List.map_append] at hr
    rcases List.mem_append.1 hr with hr | hr
    ·exact HVL.out r hr
    ·obtain rfl : r = ps.map (·.1) := by simpa using hr
     refine ⟨by rw [List.length_map, HPL.out]; omega, fun x hx => ?_⟩
     obtain ⟨p, hp, rfl⟩ := List.mem_map.1 hx
     exact hlq p hp
   have hsk : M - (k + 1) < M - k := by omega
   clear P2 Q2 Q3 K3 K4 row3 row4 n1 n2 hlq hrs HTR
   go_wp2
   go_roundw
   case rel => exact ⟨k + 1, _, _, _, _, by omega, by omega, HUL4, T4, HQP4, HVL4, by go_num⟩
   case measure => simp [intOf]; omega
  ·have hx : ¬ k < n0 ∨ (k < n0 ∧ ¬ k < M) := by omega
   have HEND : Hid (RetFewX M w (.returned (.tuple #[.slice A6 us.length c6, .slice A7 vs.length c7])) wr) := ⟨_, _, us, vs, pss, qss, rfl, hT, HQP.out, by rw [HUL.out]; exact hkM, HVL.out⟩
   clear hT HQP HVL
   rcases hx with hx | ⟨hx1, hx2⟩
   all_goals
    go_wp2
    go_ret2
    exact HEND.out
/-- The same, read only. -/
def RetFewT (M : Nat) (w : World) (e : Ending) (w' : World) : Prop := ∃ V U p, e = .returned (.tuple #[V, U]) ∧ SlT .u64 4294967296 w' V p ∧ SlT .i64 10000 w' U p ∧ p.length ≤ M ∧ (∀ r ∈ p, r.length ≤ M) ∧ lenT p 1 ∧ Below w.heap.size w w'
theorem fewt_any (a0 : Value) (M : Nat) (w : World) (h0 : ArgT w a0) (hM : M ≤ 8) : Calls Tryz.prog 6 #[a0, .int .i64 (M : Int)] w (RetFewT M w) :=
 (fewt_own a0 M w h0 hM).mono fun e w' h => by
  obtain ⟨V, U, us, vs, pss, qss, h1, h2, h3, h4, h5⟩ := h
  refine ⟨V, U, valq pss, h1, h2.p.slT, by rw [← h3]; exact h2.q.slT, by rw [valq_len, ← h2.p.len]; exact h4, fun r hr => (h5 r hr).1, fun r hr => (h5 r hr).2, h2.below⟩
theorem addr_plus (g o i : Nat) : (⟨g, o, none⟩ : Addr).add i = ⟨g, o + i, none⟩ := by
 unfold Addr.add
 by_cases h : i = 0
 ·simp [h]
 ·simp [h]
theorem TabS.at_ {k : IntKind} {B : Nat} {w : World} {g : Nat} {TS : TypeId} {us : List Value} {T : List (List Rat)} (h : TabS k B w g TS us T) {i : Nat} {r : List Rat} (hr : T[i]? = some r) : ∃ Ar cr, us[i]? = some (.slice Ar r.length cr) ∧ w.cell? ⟨g, i, none⟩ = some (.slice Ar r.length cr) ∧ SlF k B w (.slice Ar r.length cr) r := by
 have hi : i < us.length := by rw [h.2.1]; exact (List.getElem?_eq_some_iff.1 hr).1
 have hu : us[i]? = some us[i] := List.getElem?_eq_getElem hi
 have hs := h.2.2 i _ r hu hr
 obtain ⟨Ar, cr, e, _, _⟩ := hs.shape
 have hc := h.1.cell hu
 rw [addr_zero] at hc
 rw [e] at hu hs hc
 exact ⟨Ar, cr, hu, hc, hs⟩
/-- A part of the table, read. -/
theorem TabS.sub {k : IntKind} {B : Nat} {w : World} {g : Nat} {TS : TypeId} {us : List Value} {T : List (List Rat)} (h : TabS k B w g TS us T) {o m c : Nat} (hm : o + m ≤ T.length) (hc : m ≤ c) (hx : c ≤ maxLen) : SlT k B w (.slice (some ⟨g, o, none⟩) m c) ((T.drop o).take m) := by
 have hl : us.length = T.length := h.2.1
 have e1 : ((us.drop o).take m).length = m := by rw [List.length_take, List.length_drop]; omega
 refine ⟨(us.drop o).take m, by rw [e1, List.length_take, List.length_drop]; omega, ⟨some ⟨g, o, none⟩, c, by rw [e1], by rw [e1]; exact hc, hx, fun i u hu => ⟨_, rfl, ?_⟩⟩, fun i u r hu hr => ?_⟩
 ·rw [addr_plus]
  have hi : i < m := by have := (List.getElem?_eq_some_iff.1 hu).1; omega
  rw [List.getElem?_take_of_lt hi, List.getElem?_drop] at hu
  have hcc := h.1.cell hu
  rwa [addr_zero] at hcc
 ·have hi : i < m := by have := (List.getElem?_eq_some_iff.1 hu).1; omega
  rw [List.getElem?_take_of_lt hi, List.getElem?_drop] at hu hr
  exact h.2.2 _ u r hu hr
/-- A table of the call's own, at its full length, as one that is written row by row. -/
theorem TabO.tabS {T0 : TypeId} {w : World} {base g n : Nat} {TS : TypeId} {us : List Value} {pss : List (List Elt)} {k : IntKind} {B : Nat} (h : TabO k B T0 w base TS (.slice (some ⟨g, 0, none⟩) n n) us pss) (hn : us.length = n) : TabS k B w g TS us (valq pss) := by
  refine ⟨⟨?_, fun u hu => ?_⟩, by rw [valq_len]; exact h.len, fun i u r hu hr => ?_⟩
  · rcases h.row.2 with ⟨e, _⟩ | ⟨g', cap, cur, e, _, hg, _, _, h1, h2⟩
    · cases e
    · injection e with e1 e2 e3
      injection e1 with e1
      injection e1 with e1 _ _
      subst e1
      have e : cur = us.toArray := by
        apply Array.toList_inj.1
        rw [← h2, List.take_of_length_le (by simp; omega)]
      unfold Blk
      rw [hg, e]
  · obtain ⟨i, hi⟩ := List.mem_iff_getElem?.1 hu
    obtain ⟨ps, hp⟩ : ∃ ps, pss[i]? = some ps := ⟨_, List.getElem?_eq_getElem (by rw [← h.len]; exact (List.getElem?_eq_some_iff.1 hi).1)⟩
    have hf := (h.own i u ps hi hp).isVF
    obtain ⟨A, c, e, _⟩ := hf
    exact ⟨A, _, c, e⟩
  · rw [valq, List.getElem?_map] at hr
    cases hp : pss[i]? with
    | none => rw [hp] at hr; cases hr
    | some ps =>
      rw [hp] at hr
      obtain rfl : ps.map (·.1) = r := by simpa using hr
      exact (h.own i u ps hu hp).sl (h.far u (List.mem_of_getElem? hu) ps (List.mem_of_getElem? hp))
theorem RowV.weak {w : World} {base base' : Nat} {TS : TypeId} {V : Value} {us : List Value} (h : RowV w base TS V us) (hb : base' ≤ base) : RowV w base' TS V us := by
 refine ⟨h.1, ?_⟩
 rcases h.2 with hn | ⟨g, cap, cur, hv, hg, rest⟩
 ·exact .inl hn
 ·exact .inr ⟨g, cap, cur, hv, Nat.le_trans hb hg, rest⟩
theorem TabO.weak {k : IntKind} {B : Nat} {T TS : TypeId} {w : World} {base base' : Nat} {V : Value} {us : List Value} {pss : List (List Elt)} (h : TabO k B T w base TS V us pss) (hb : base' ≤ base) : TabO k B T w base' TS V us pss :=
 ⟨RowV.weak h.row hb, h.len, fun i u ps hu hp => RowF.weak (h.own i u ps hu hp) hb, h.far, h.farV, h.apart⟩
theorem listT_one {w : World} {v u0 : Value} {t0 : List (List Rat)} (h : IsV w v [u0]) (h0 : SlT .u64 4294967296 w u0 t0) : ListT w v [t0] :=
  ⟨[u0], rfl, h, by simp, fun i u t hu ht => by
    rcases i with _ | i
    · obtain rfl : u0 = u := by simpa using hu
      obtain rfl : t0 = t := by simpa using ht
      exact h0
    · simp at hu⟩
/-- The first row that is not nought at the place. -/
def RetFirst (L : List (List Rat)) (a : Nat) (w : World) (e : Ending) (w' : World) : Prop := ∃ k : Nat, e = .returned (.int .i64 (k : Int)) ∧ k ≤ L.length ∧ (∀ i, i < k → entF L i a = 0) ∧ (k < L.length → entF L k a ≠ 0) ∧ Below w.heap.size w w'
set_option maxHeartbeats 3200000 in
set_option maxRecDepth 100000 in
theorem gfirst_any (a0 : Value) (L : List (List Rat)) (a : Nat) (w : World) (h0 : SlT .u64 4294967296 w a0 L) (hl : ∀ r ∈ L, a < r.length) : Calls Tryz.prog 69 #[a0, .int .i64 (a : Int)] w (RetFirst L a w) := by
 have st0 := h0
 obtain ⟨A0, c0, rfl, hc0, hm0⟩ := h0.shape
 unfold maxLen at hm0
 have HL := Lib.hid hl
 clear hl
 go_enter Tryz.func69, Tryz.ntmps69
 go_wp2
 go_loopw [8] (fun v8 wr => ∃ k : Nat, k ≤ L.length ∧ Hid (∀ i, i < k → entF L i a = 0) ∧ Below w.heap.size w wr ∧ v8 = .int .i64 (k : Int)) (fun v8 _ => L.length - (intOf v8).toNat)
 case atStart => exact ⟨0, by omega, (by show ∀ i, _; intro i hi; omega), Below.refl _ _, rfl⟩
 case round =>
  obtain ⟨k, hk, HZ, bb, rfl⟩ := hrel
  by_cases hlt : k < L.length
  ·obtain ⟨r, hr⟩ : ∃ r, L[k]? = some r := ⟨_, List.getElem?_eq_getElem hlt⟩
   have hal := HL.out r (List.mem_of_getElem? hr)
   obtain ⟨q, hq⟩ : ∃ q, r[a]? = some q := ⟨_, List.getElem?_eq_getElem hal⟩
   have he : Hid (entF L k a = q) := entF_of hr hq
   obtain ⟨ad, rfl⟩ := st0.place (List.length_pos_iff.1 (by omega))
   obtain ⟨Ar, cr, hik, ecr, sr⟩ := (st0.below bb).at2 hr
   obtain ⟨gr, or, u, t, rfl, hia, k0, k1, k2, su, st⟩ := sr.at_ hq
   obtain ⟨Au, cu, rfl, _⟩ := id su
   obtain ⟨At, ct, rfl, _⟩ := id st
   have hix := fun w => index3 (P := Tryz.prog) Tryz.underlying64 (by kernel_rfl) (g := gr) (o := or) (c := cr) hia w
   have kq : IsQ wr (.agg #[.bool (ngB q.num), .slice Au (digs 4294967296 q.num.natAbs).length cu, .slice At (digs 4294967296 q.den).length ct]) q := ⟨_, _, rfl, su, st⟩
   obtain ⟨t, ht⟩ : ∃ t, t = ordz q.num 0 := ⟨_, rfl⟩
   have hz : (t == 0) = decide (q = 0) := by rw [ht, num_ordz0]
   have HT := Lib.hid ht
   clear hr hq ht sr
   go_wp2_with fail
   refine (fsign0_any _ q t _ kq HT.out).mono ?_
   rintro e w4 ⟨rfl, b4⟩
   have bb4 := bb.trans (b4.mono bb.size)
   by_cases hq0 : q = 0
   ·obtain rfl : t = 0 := by
     rw [hq0] at hz
     simpa using hz
    have HZ2 : Hid (∀ i, i < k + 1 → entF L i a = 0) := by
     show ∀ i, _
     intro i hi
     by_cases e : i = k
     ·subst e; rw [he.out]; exact hq0
     ·exact HZ.out i (by omega)
    clear hz hq0 kq k0 k1 k2
    go_wp2
    go_roundw
    case rel => exact ⟨k + 1, by omega, HZ2, bb4, by go_num⟩
    case measure => simp [intOf]; omega
   ·have hz1 : ¬ t = 0 := by
     intro e
     rw [e, decide_eq_false hq0] at hz
     exact absurd hz (by decide)
    have HN : Hid (entF L k a ≠ 0) := by show _ ≠ _; rw [he.out]; exact hq0
    clear hz hq0 kq k0 k1 k2
    go_wp2
    go_ret
    exact ⟨k, rfl, by omega, HZ.out, fun _ => HN.out, bb4⟩
  ·obtain rfl : k = L.length := by omega
   go_wp2
   go_ret
   exact ⟨_, rfl, Nat.le_refl _, HZ.out, fun h => by omega, bb⟩
theorem besides_one (T : List (List Rat)) : besides T.length [T] ↔ mayq T := by
 unfold besides
 constructor
 ·intro h; exact (h T List.mem_cons_self).1
 ·intro h t ht
  obtain rfl := List.mem_singleton.1 ht
  exact ⟨h, rfl⟩
theorem besideT_one (T : List (List Rat)) : besideT T.length [T] = T := joinq_nil T
set_option maxHeartbeats 1600000 in
set_option maxRecDepth 100000 in
theorem tbown_any (a0 : Value) (T : List (List Rat)) (w : World) (h0 : SlT .u64 4294967296 w a0 T) (hl : wideq T ≤ 200 ∧ T.length ≤ 200 ∧ lenT T 100000) : Calls Tryz.prog 33 #[a0] w (fun e w' => (mayq T ∧ RetTO T.length T w e w') ∨ (¬ mayq T ∧ RetTE [] 8 w e w')) := by
 have st0 := h0
 obtain ⟨A0, c0, rfl, hc0, hm0⟩ := h0.shape
 have HL := Lib.hid hl
 clear hl
 have ba := below_alloc (w := w) (Nat.le_refl _) (.cells #[.slice A0 T.length c0] 22)
 have HV := listT_one (isV_lit w 22 [.slice A0 T.length c0]) (st0.below ba)
 have HLV := Lib.hid HV
 clear HV
 go_enter Tryz.func33, Tryz.ntmps33
 go_wp2_with fail
 refine (mbeside_own _ [T] T _ HLV.out rfl ⟨by simp, by simp; exact HL.out.1, fun t ht => by rw [List.mem_singleton.1 ht]; exact HL.out.2.2, HL.out.2.1⟩).mono ?_
 rintro e w2 h2
 rw [besides_one, besideT_one] at h2
 rcases h2 with ⟨hm, g, us, pss, rfl, hT, hV, hU, hg, b2⟩ | ⟨hm, V, rfl, hS, b2⟩
 ·have bb := ba.trans (b2.mono ba.size)
  have hw : w.heap.size ≤ (w.alloc (.cells #[.slice A0 T.length c0] 22)).heap.size := ba.size
  have HE := Lib.hid (And.intro hm (And.intro hV (And.intro hU (Nat.le_trans hw hg))))
  have HT := Lib.hid hT
  clear hm hT hV hU hg hw
  go_wp2
  go_ret2
  exact .inl ⟨HE.out.1, g, us, pss, rfl, TabO.weak HT.out ba.size, HE.out.2.1, HE.out.2.2.1, HE.out.2.2.2, bb⟩
 ·rw [if_neg (by decide)] at hS
  obtain ⟨AV, cV, rfl, -, -⟩ := hS.shape
  have bb := ba.trans (b2.mono ba.size)
  have HN := Lib.hid hm
  clear hm
  go_wp2
  go_ret2
  exact .inr ⟨HN.out, _, rfl, by rw [if_neg (by decide)]; exact hS, bb⟩
/-- No row lies in such a block. -/
def OffU (us : List Value) (G : Nat → Prop) : Prop := ∀ u ∈ us, ∀ g, u.ownBlock = some g → ¬ G g
/-- What rows are new lie in new memory. -/
def Stays (w : World) (us us' : List Value) : Prop := ∀ G : Nat → Prop, (∀ x, G x → x < w.heap.size) → OffU us G → OffU us' G
theorem Stays.refl (w : World) (us : List Value) : Stays w us us := fun _ _ h => h
theorem Stays.set {w w1 : World} {us us' : List Value} (h : Stays w us us') (hw : w.heap.size ≤ w1.heap.size) {g n c : Nat} (hg : w1.heap.size ≤ g) (i : Nat) : Stays w us (us'.set i (.slice (some ⟨g, 0, none⟩) n c)) := fun G hG ho u hu x hx => by
 rcases List.mem_or_eq_of_mem_set hu with hu | rfl
 ·exact h G hG ho u hu x hx
 ·intro hGx
  have h1 := hG x hGx
  have h2 : g = x := by simpa [Value.ownBlock] using hx
  omega
/-- The table is changed in its place, and nothing else. -/
def RetClr (g : Nat) (us : List Value) (T' : List (List Rat)) (w : World) (e : Ending) (w' : World) : Prop := e = .returned (.tuple #[]) ∧ ∃ us', TabS .u64 4294967296 w' g 64 us' T' ∧ w.grownBy w' (some g) ∧ Stays w us us'
theorem grown_refl (w : World) (row : Option Nat) : w.grownBy w row := below_none (Below.refl _ w) row
theorem grown_set1 {w w1 : World} {g i : Nat} {u : Value} (h : w.grownBy w1 (some g)) : w.grownBy (w1.setCell ⟨g, i, none⟩ u) (some g) := h.trans (grown_set w1 g i u)
set_option maxHeartbeats 6400000 in
set_option maxRecDepth 100000 in
theorem gclear_any (g o m c a n C S : Nat) (us : List Value) (a1 : Value) (p : List Rat) (T : List (List Rat)) (P : Nat → Bool) (w : World) (h : TabS .u64 4294967296 w g 64 us T) (hp : SlF .u64 4294967296 w a1 p) (hc : Hid (shp T n C ∧ p.length = C ∧ a < C ∧ o + m ≤ n ∧ m ≤ c ∧ n ≤ 1000000 ∧ C ≤ 1000 ∧ (∀ i, i < o → P i = false) ∧ (∀ i, o ≤ i → i < o + m → P i = true) ∧ (∀ r ∈ T, rowL r S) ∧ rowL p S ∧ (0 < m → S + S ≤ 4900))) :
  Calls Tryz.prog 73 #[.slice (some ⟨g, o, none⟩) m c, a1, .int .i64 (a : Int)] w (RetClr g us (clrM T P p a (o + m)) w) := by
 obtain ⟨A1, c1, rfl, _, _⟩ := hp.shape
 have ha := hc.out.2.2.1
 have hom := hc.out.2.2.2.1
 have hmc := hc.out.2.2.2.2.1
 have hn := hc.out.2.2.2.2.2.1
 go_enter Tryz.func73, Tryz.ntmps73
 go_wp2
 go_loopw [10] (fun v10 wr => ∃ (k : Nat) (us' : List Value), k ≤ m ∧ TabS .u64 4294967296 wr g 64 us' (clrM T P p a (o + k)) ∧ Hid (w.grownBy wr (some g)) ∧ Hid (Stays w us us') ∧ v10 = .int .i64 (k : Int)) (fun v10 _ => m - (intOf v10).toNat)
 case atStart => exact ⟨0, us, by omega, by rw [Nat.add_zero, clrM_none o hc.out.2.2.2.2.2.2.2.1]; exact h, grown_refl _ _, Stays.refl _ _, rfl⟩
 case round =>
  obtain ⟨k, us', hk, TS, HG, HST, rfl⟩ := hrel
  by_cases hlt : k < m
  ·have hs := hc.out.1
   obtain ⟨r, hr, hrl⟩ := row_ex hs (show o + k < n by omega)
   have hr2 : (clrM T P p a (o + k))[o + k]? = some r := by rw [clrM_ge T P p a (o + k) (o + k) (Nat.le_refl _)]; exact hr
   obtain ⟨q, hq⟩ : ∃ q, r[a]? = some q := ⟨_, List.getElem?_eq_getElem (by omega)⟩
   have he : Hid (entF T (o + k) a = q) := entF_of hr hq
   have hP := hc.out.2.2.2.2.2.2.2.2.1 (o + k) (by omega) (by omega)
   obtain ⟨Ar, cr, hur, ecr, sr⟩ := TS.at_ hr2
   obtain ⟨gr, or, u, t, rfl, hia, k0, k1, k2, su, st⟩ := sr.at_ hq
   obtain ⟨Au, cu, rfl, _⟩ := id su
   obtain ⟨At, ct, rfl, _⟩ := id st
   have hix := fun w => index3 (P := Tryz.prog) Tryz.underlying64 (by kernel_rfl) (g := gr) (o := or) (c := cr) hia w
   have ba := below_alloc (w := wr) (Nat.le_refl _) (.cells #[.bool (ngB q.num), .slice Au (digs 4294967296 q.num.natAbs).length cu, .slice At (digs 4294967296 q.den).length ct] 44)
   have BT := Blk.new wr 44 #[.bool (ngB q.num), .slice Au (digs 4294967296 q.num.natAbs).length cu, .slice At (digs 4294967296 q.den).length ct]
   have kq : IsQ (wr.alloc (.cells #[.bool (ngB q.num), .slice Au (digs 4294967296 q.num.natAbs).length cu, .slice At (digs 4294967296 q.den).length ct] 44)) (.agg #[.bool (ngB q.num), .slice Au (digs 4294967296 q.num.natAbs).length cu, .slice At (digs 4294967296 q.den).length ct]) q := ⟨_, _, rfl, su.below ba, st.below ba⟩
   obtain ⟨t, ht⟩ : ∃ t, t = ordz q.num 0 := ⟨_, rfl⟩
   have hz : (t == 0) = decide (q = 0) := by rw [ht, num_ordz0]
   have HT := Lib.hid ht
   have sp := (h.1.keepF HG.out hp).below ba
   have TSa := TS.below ba
   have sra := sr.below ba
   have HR := Lib.hid (And.intro hr (And.intro hrl (And.intro hq (And.intro hP hr2))))
   clear hr hrl hq ht su st sr hr2 hP hs TS hur
   go_wp2_with fail
   refine (fsign0_any _ q t _ kq HT.out).mono ?_
   rintro e w4 ⟨rfl, b4⟩
   have bb4 := ba.trans (b4.mono ba.size)
   have TS4 := TSa.below b4
   have BT4 := BT.below b4
   have kq4 := kq.below b4
   have sp4 := sp.below b4
   have sr4 := sra.below b4
   have HG4 : Hid (w.grownBy w4 (some g)) := below_grown HG.out bb4
   clear TSa BT kq sp sra b4 ba bb4 HG k0 k1 k2 ecr hix
   by_cases hq0 : q = 0
   ·obtain rfl : t = 0 := by
     rw [hq0] at hz
     simpa using hz
    have TS5 : TabS .u64 4294967296 w4 g 64 us' (clrM T P p a (o + (k + 1))) := by
     rw [← Nat.add_assoc, clrM_keep HR.out.2.2.2.1 HR.out.1 (by rw [he.out]; exact hq0) (by rw [HR.out.2.1]; exact hc.out.2.1.symm)]
     exact TS4
    clear hz hq0 kq4 TS4 BT4 sp4 sr4
    go_wp2
    go_roundw
    case rel => exact ⟨k + 1, us', by omega, TS5, HG4, HST, by go_num⟩
    case measure => simp [intOf]; omega
   ·have hz1 : ¬ t = 0 := by
     intro e
     rw [e, decide_eq_false hq0] at hz
     exact absurd hz (by decide)
    clear hz
    have bd := (Below.refl w4.heap.size w4).drew
    have TSd := TS4.below bd
    have BTd : Blk w4.drew _ _ _ := BT4.drew
    obtain ⟨V0, V1, V2, _, _, _⟩ := three BTd
    have kqd := kq4.below bd
    have spd := sp4.below bd
    have srd := sr4.below bd
    obtain ⟨Ar2, cr2, hur2, ecr2, srd2⟩ := TSd.at_ HR.out.2.2.2.2
    have HLS : Hid (r.length = p.length ∧ r.length ≤ 1000 ∧ (∀ x ∈ r, lenQ x S) ∧ lenQ q S ∧ (∀ x ∈ p, lenQ x S) ∧ S ≤ 4900 ∧ S + S ≤ 4900) := by
     have h1 := hc.out.2.2.2.2.2.2.2.2.2.1 r (List.mem_of_getElem? HR.out.1)
     have h2 := hc.out.2.2.2.2.2.2.2.2.2.2.1
     have h3 := hc.out.2.2.2.2.2.2.2.2.2.2.2 (by omega)
     exact ⟨by rw [HR.out.2.1]; exact hc.out.2.1.symm, by rw [HR.out.2.1]; exact hc.out.2.2.2.2.2.2.1, h1.len, h1.len q (List.mem_of_getElem? HR.out.2.2.1), h2.len, by omega, h3⟩
    have HNL : Hid ((lessq r q p).length ≤ 1000000000) := by
     show _ ≤ _
     rw [lessq_len HLS.out.1]; have := HLS.out.2.1; omega
    have HNX : Hid ((clrM T P p a (o + k)).set (o + k) (lessq r q p) = clrM T P p a (o + (k + 1))) := by
     show _ = _
     rw [← Nat.add_assoc, clrM_next HR.out.2.2.2.1 HR.out.1, he.out]
    have hokl : o + k < (clrM T P p a (o + k)).length := (List.getElem?_eq_some_iff.1 HR.out.2.2.2.2).1
    have HG5 : Hid (w.grownBy w4.drew (some g)) := below_grown HG4.out bd
    clear TS4 BT4 kq4 sp4 sr4 HG4 hq0
    go_upto_region 5 with (fail)
    go_region_law (go_simp; go_at_call 106; refine (fless_own _ _ _ r q p S S S _ (by exact srd2) (by exact kqd) (by exact spd) HLS.out.1 HLS.out.2).mono ?_; rintro e w6 ⟨gn, rfl, RNn, hgn, b6⟩; have sR := RNn.sl rfl HNL.out; have TS6 := TSd.below b6; obtain ⟨u0, c6⟩ := TS6.cellAt (i := o + k) hokl; have f6 := TS6.frozenAt (o + k))
    all_goals
     have TS7 := TS6.stored (o + k) sR
     rw [HNX.out] at TS7
     have HG7 : Hid (w.grownBy (w6.setCell ⟨g, o + k, none⟩ (.slice (some ⟨gn, 0, none⟩) (lessq r q p).length (lessq r q p).length)) (some g)) := grown_set1 (below_grown HG5.out b6)
     have HST7 : Hid (Stays w us (us'.set (o + k) (.slice (some ⟨gn, 0, none⟩) (lessq r q p).length (lessq r q p).length))) := Stays.set HST.out HG5.out.size hgn (o + k)
     clear TS6 TSd
     go_wp2
     go_roundw
     case rel => exact ⟨k + 1, _, by omega, TS7, HG7, HST7, by go_num⟩
     case measure => simp [intOf]; omega
  ·obtain rfl : k = m := by omega
   go_wp2
   go_end0
   exact ⟨rfl, us', TS, HG.out, HST.out⟩
/-- A row of the call's own, whose block holds but cells of a sort. -/
def RowX (S : Value → Prop) (w : World) (base : Nat) (e : TypeId) (v : Value) (vs : List Value) : Prop := RowV w base e v vs ∧ ∀ g, v.ownBlock = some g → ∃ cs, w.heap[g]? = some (.cells cs e (0, 0)) ∧ ∀ c ∈ cs, S c
theorem RowX.grown {S : Value → Prop} {w w' : World} {base : Nat} {e : TypeId} {v : Value} {vs : List Value} {row : Option Nat} (h : RowX S w base e v vs) (hg : w.grownBy w' row) (hne : ∀ g, v.ownBlock = some g → row ≠ some g) : RowX S w' base e v vs := by
 refine ⟨RowV.kept h.1 hg hne, fun g e1 => ?_⟩
 obtain ⟨cs, h1, h2⟩ := h.2 g e1
 exact ⟨cs, (hg.block g (h.1.under g e1) (fun e2 => hne g e1 e2.symm)).trans h1, h2⟩
theorem RowX.below {S : Value → Prop} {w w' : World} {base : Nat} {e : TypeId} {v : Value} {vs : List Value} (h : RowX S w base e v vs) (hb : Below w.heap.size w w') : RowX S w' base e v vs := by
 refine ⟨h.1.below hb, fun g e1 => ?_⟩
 obtain ⟨cs, h1, h2⟩ := h.2 g e1
 exact ⟨cs, (hb.block g (h.1.under g e1)).trans h1, h2⟩
theorem rowX_nil (S : Value → Prop) (w : World) (base : Nat) (e : TypeId) : RowX S w base e (.slice none 0 0) [] := ⟨⟨rfl, .inl ⟨rfl, rfl⟩⟩, fun g h => by cases h⟩
/-- What holds no truth and no limb, written: a row of fractions stays. -/
theorem SlF.keepX {k : IntKind} {B : Nat} {w w' : World} {v : Value} {r : List Rat} {g : Nat} {e : TypeId} {cs : Array Value} (h : SlF k B w v r) (hB : w.heap[g]? = some (.cells cs e (0, 0))) (hb : ∀ c ∈ cs, ∀ b, c ≠ .bool b) (hi : ∀ c ∈ cs, ∀ n, c ≠ .int k n) (hg : w.grownBy w' (some g)) : SlF k B w' v r := by
 obtain ⟨ps, h1, ⟨A, c, e1, h2, h3, h4⟩, h5⟩ := h
 refine ⟨ps, h1, ⟨A, c, e1, h2, h3, fun i p hp => ?_⟩, fun p hp => ⟨Go.Proofs.YtmpalajamfiiiaaGreat.flow.off (h5 p hp).1 hB hi hg, Go.Proofs.YtmpalajamfiiiaaGreat.flow.off (h5 p hp).2 hB hi hg⟩⟩
 obtain ⟨g', o, e2, c0, c1, c2⟩ := h4 i p hp
 have hne : some g' ≠ some g := by
  intro e3
  injection e3 with e3
  subst e3
  rw [cell_of_row w g' _ cs e (0, 0) hB] at c0
  exact hb _ (Array.mem_of_getElem? c0) _ rfl
 exact ⟨g', o, e2, hg.cell c0 hne, hg.cell c1 hne, hg.cell c2 hne⟩
def isI (v : Value) : Prop := ∃ n, v = .int .i64 n
section
variable {P : Program}
/-- Append of ints to such a row. -/
theorem run_append_X {w : World} {base : Nat} {t ty e : TypeId} (hT : P.underlying t = some (.slice e)) (hI : ∃ i, P.info? e = some i ∧ i.zero = some (.int .i64 0) ∧ i.size = 1 ∧ i.bytes = 8) {v : Value} {vs news : List Value} (hown : RowX isI w base e v vs) {ad : Addr} {m c : Nat} (hm : m = news.length) (hm0 : 0 < m)
  (hr : ∀ (i : Nat) (u : Value), news[i]? = some u → w.cell? (ad.add i) = some u) (h1 : ∀ u ∈ news, isI u) (hlen : vs.length + m ≤ 1000000000) (hbase : base ≤ w.heap.size) :
  ∃ v' w', (Builtin.append_ #[t, t] ty #[v, .slice (some ad) m c]).run P w = .ok v' w' ∧ RowX isI w' base e v' (vs ++ news) ∧ w.grownBy w' v.ownBlock ∧ (v'.ownBlock = v.ownBlock ∨ v'.ownBlock = some w.heap.size) := by
 obtain ⟨i, hi, hz, hs, hby⟩ := hI
 subst hm
 have one : ∀ u ∈ news, u.oneCell' = true := fun u hu => by obtain ⟨n, rfl⟩ := h1 u hu; rfl
 have hl : news.length = news.length * i.size := by rw [hs, Nat.mul_one]
 have zs : ∀ n, ∀ c ∈ Builtin.zeroCells (Value.int .i64 0).cells n, isI c := by
  intro n c hc
  have : c = .int .i64 0 := by
   have h0 : ∀ n, ∀ c ∈ (Builtin.zeroCells (Value.int .i64 0).cells n), c = .int .i64 0 := by
    intro n c hc
    unfold Builtin.zeroCells at hc
    simp [Value.cells, Nat.mod_one] at hc
    obtain ⟨_, h3⟩ := hc
    first | exact h3.symm | exact h3.2.symm
   exact h0 n c hc
  exact ⟨0, this⟩
 obtain ⟨v', w', g1, g2, g3, _, g5⟩ := run_append_own_at (P := P) w base t ty e i (.int .i64 0) 1 8 hT hi hz hs hby rfl (by decide) v vs.length vs hown.1 ad news.length c news (by simp) (fun j u hu => hr j u hu) one (by unfold maxLen; omega) (by omega) hbase
 refine ⟨v', w', g1, ⟨by unfold RowV; rw [List.length_append]; exact g2, fun g hg => ?_⟩, g3, g5⟩
 rcases hown.1.2 with ⟨rfl, h0⟩ | ⟨g', cap, cur, rfl, hbg, hgg, hnc, hcm, hcs, htake⟩
 ·have hx : vs = [] := List.eq_nil_of_length_eq_zero h0
  subst hx
  have hr2 := run_append_nil (P := P) w t ty e i (.int .i64 0) hT hi hz ad news.length c news hl hr hm0 (by omega) (by rw [hby]; simp at hlen; omega)
  rw [hr2] at g1
  injection g1 with g1 g1'
  subst g1; subst g1'
  obtain rfl : w.heap.size = g := by simpa [Value.ownBlock] using hg
  refine ⟨_, heap_alloc_new w.drew _, fun c hc => ?_⟩
  rcases Array.mem_append.1 hc with hc | hc
  ·exact h1 c (by simpa using hc)
  ·exact zs _ c hc
 ·obtain ⟨cs, hcs1, hcs2⟩ := hown.2 g' rfl
  rw [hgg] at hcs1
  injection hcs1 with hcs1
  injection hcs1 with hcs1 _ _
  subst hcs1
  by_cases hroom : vs.length + news.length ≤ cap
  ·have hfit : vs.length * i.size + news.length ≤ cur.size := by rw [hcs, hs]; omega
   have hr2 := run_append_room (P := P) w t ty e i hT hi g' vs.length cap cur hgg ad news.length c news hl hr one hroom hfit
   rw [hr2] at g1
   injection g1 with g1 g1'
   subst g1; subst g1'
   obtain rfl : g' = g := by simpa [Value.ownBlock] using hg
   refine ⟨_, setRow_heap w g' cur _ e _ hgg, fun c hc => ?_⟩
   have hc2 : c ∈ cur.toList.take (vs.length * i.size) ++ news ++ cur.toList.drop (vs.length * i.size + news.length) := by simpa using hc
   rcases List.mem_append.1 hc2 with hc2 | hc2
   ·rcases List.mem_append.1 hc2 with hc2 | hc2
    ·exact hcs2 c (by simpa using List.mem_of_mem_take hc2)
    ·exact h1 c hc2
   ·exact hcs2 c (by simpa using List.mem_of_mem_drop hc2)
  ·have holds : ∀ j u, vs[j]? = some u → w.cell? ((⟨g', 0, none⟩ : Addr).add j) = some u := World.ownsRow.cells hown.1 (g := g') rfl
   have hr2 := run_append_grow (P := P) w t ty e i (.int .i64 0) hT hi hz ⟨g', 0, none⟩ vs.length cap vs (by rw [hs]; omega) holds ad news.length c news hl hr (by omega) (by omega) (growslice_fits (by omega) (by rw [hby]; omega))
   rw [hr2] at g1
   injection g1 with g1 g1'
   subst g1; subst g1'
   obtain rfl : w.heap.size = g := by simpa [Value.ownBlock] using hg
   refine ⟨_, heap_alloc_new w.drew _, fun c hc => ?_⟩
   rcases Array.mem_append.1 hc with hc | hc
   ·rcases Array.mem_append.1 hc with hc | hc
    ·have hcv : c ∈ vs := by simpa using hc
     rw [← htake] at hcv
     exact hcs2 c (by simpa using List.mem_of_mem_take hcv)
    ·exact h1 c (by simpa using hc)
   ·exact zs _ c hc
theorem wp_append_X {w : World} {o : Oper} {a : Act} {K : Act → World → Prop} {Q : Exit → Act → World → Prop} (s x : Operand) {t : TypeId}
  (ho : o.op = .call { callee := .builtin .append, args := #[s, x], argTypes := #[t, t] })
  {base : Nat} {e : TypeId} (hT : P.underlying t = some (.slice e)) (hI : ∃ i, P.info? e = some i ∧ i.zero = some (.int .i64 0) ∧ i.size = 1 ∧ i.bytes = 8) {v : Value} {vs news : List Value} (hs : a.eval s = v) (hown : RowX isI w base e v vs) {ad : Addr} {m c : Nat} (hx : a.eval x = .slice (some ad) m c) (hm : m = news.length) (hm0 : 0 < m)
  (hr : ∀ (i : Nat) (u : Value), news[i]? = some u → w.cell? (ad.add i) = some u) (h1 : ∀ u ∈ news, isI u) (hlen : vs.length + m ≤ 1000000000) (hbase : base ≤ w.heap.size)
  (h : ∀ v' w', RowX isI w' base e v' (vs ++ news) → Hid (w.grownBy w' v.ownBlock) → Hid (v'.ownBlock = v.ownBlock ∨ v'.ownBlock = some w.heap.size) → K (a.put o.dst v') w') : o.wp P a w K Q := by
 obtain ⟨v', w', hrun, h2, h3, h4⟩ := run_append_X (P := P) (ty := o.type) hT hI hown (c := c) hm hm0 hr h1 hlen hbase
 unfold Oper.wp execOp
 simp only [ho, resolve, invoke, builtin, Sem.run_bind, Sem.run_pure, Result.andThen_ok, List.map_toArray, List.map_cons, List.map_nil, hs, hx, hrun]
 exact h v' w' h2 h3 h4
theorem wpList_append_X {w : World} {ops : Array Oper} {rest : List Oper} {o : Oper} {a : Act} {Q : Exit → Act → World → Prop} (hgd : o.guard = none) (s x : Operand) {t : TypeId}
  (ho : o.op = .call { callee := .builtin .append, args := #[s, x], argTypes := #[t, t] })
  {base : Nat} {e : TypeId} (hT : P.underlying t = some (.slice e)) (hI : ∃ i, P.info? e = some i ∧ i.zero = some (.int .i64 0) ∧ i.size = 1 ∧ i.bytes = 8) {v : Value} {vs news : List Value} (hs : a.eval s = v) (hown : RowX isI w base e v vs) {ad : Addr} {m c : Nat} (hx : a.eval x = .slice (some ad) m c) (hm : m = news.length) (hm0 : 0 < m)
  (hr : ∀ (i : Nat) (u : Value), news[i]? = some u → w.cell? (ad.add i) = some u) (h1 : ∀ u ∈ news, isI u) (hlen : vs.length + m ≤ 1000000000) (hbase : base ≤ w.heap.size)
  (h : ∀ v' w', RowX isI w' base e v' (vs ++ news) → Hid (w.grownBy w' v.ownBlock) → Hid (v'.ownBlock = v.ownBlock ∨ v'.ownBlock = some w.heap.size) → wpList P ops Q rest (a.put o.dst v') w') : wpList P ops Q (o :: rest) a w :=
 wpList_plain hgd fun _ hK => wp_append_X s x ho hT hI hs hown hx hm hm0 hr h1 hlen hbase fun v' w' h2 h3 h4 => hK _ _ (h v' w' h2 h3 h4)
end
/-- A row of ints, written: fractions of the program's stay; a table too. -/
theorem RowX.keepF {w w' : World} {base : Nat} {e : TypeId} {V : Value} {vs : List Value} {v : Value} {r : List Rat} (h : RowX isI w base e V vs) (hg : w.grownBy w' V.ownBlock) (hs : SlF .u64 4294967296 w v r) : SlF .u64 4294967296 w' v r := by
  cases ho : V.ownBlock with
  | none => rw [ho] at hg; exact hs.below ⟨hg.os, hg.tape, hg.output, hg.size, fun k hk => hg.block k hk (by simp)⟩
  | some g =>
    rw [ho] at hg
    obtain ⟨cs, h1, h2⟩ := h.2 g ho
    exact hs.keepX h1 (fun c hc b => by obtain ⟨n, rfl⟩ := h2 c hc; simp) (fun c hc n => by obtain ⟨n', rfl⟩ := h2 c hc; simp) hg
theorem TabS.keepX {w w' : World} {base g : Nat} {e TS : TypeId} {V : Value} {vs us : List Value} {T : List (List Rat)} (h : TabS .u64 4294967296 w g TS us T) (hX : RowX isI w base e V vs) (hne : V.ownBlock ≠ some g) (hg : w.grownBy w' V.ownBlock) : TabS .u64 4294967296 w' g TS us T :=
 ⟨h.1.grown hg hne, h.2.1, fun i u r hu hr => hX.keepF hg (h.2.2 i u r hu hr)⟩
theorem RowX.notTab {w : World} {base g : Nat} {e TS : TypeId} {V : Value} {vs us : List Value} (h : RowX isI w base e V vs) (hT : TabB w g TS us) (hne : e ≠ TS) : V.ownBlock ≠ some g := fun e1 => by
 obtain ⟨cs, h1, _⟩ := h.2 g e1
 have h2 := hT.1
 unfold Blk at h2
 rw [h1] at h2
 injection h2 with h2
 injection h2 with _ h2
 exact hne h2
/-- What was laid since is written: what was there stays. -/
theorem grown_new {w w1 w2 : World} {row : Option Nat} {g : Nat} (h : w.grownBy w1 row) (h2 : w1.grownBy w2 (some g)) (hg : w.heap.size ≤ g) : w.grownBy w2 row := by
 refine ⟨h2.os.trans h.os, h2.tape.trans h.tape, h2.output.trans h.output, Nat.le_trans h.size h2.size, fun k hk hne => ?_⟩
 rw [h2.block k (Nat.lt_of_lt_of_le hk h.size) (fun e => by injection e with e; omega)]
 exact h.block k hk hne
theorem grown_own {w w1 w2 : World} {row : Option Nat} {v : Value} (h : w.grownBy w1 row) (h2 : w1.grownBy w2 v.ownBlock) (hg : ∀ g, v.ownBlock = some g → w.heap.size ≤ g) : w.grownBy w2 row := by
 cases e : v.ownBlock with
 | none => rw [e] at h2; exact below_grown h ⟨h2.os, h2.tape, h2.output, h2.size, fun k hk => h2.block k hk (by simp)⟩
 | some g => rw [e] at h2; exact grown_new h h2 (hg g e)
theorem Dwn.small {T0 T : List (List Rat)} {n C a S : Nat} {ps : List Nat} {d : Rat} (h : Dwn T0 T n C a ps d S) (hS : (S + 1) * 2 ^ (n - 1) ≤ 400) : rowsL T 399 := by
 obtain ⟨S', h1, h2⟩ := h.len
 refine h1.mono ?_
 have h3 : (S + 1) * 2 ^ (min ps.length (n - 1)) ≤ (S + 1) * 2 ^ (n - 1) := Nat.mul_le_mul_left _ (Nat.pow_le_pow_right (by omega) (Nat.min_le_right _ _))
 omega
theorem TabS.offQ {w w' : World} {g gx n C : Nat} {TS t : TypeId} {us : List Value} {T : List (List Rat)} {a b c : Value} (h : TabS .u64 4294967296 w g TS us T) (hs : shp T n C) (hB : Blk w gx t #[a, b, c]) (hno : ∀ x ∈ (#[a, b, c] : Array Value), ∀ n, x ≠ .int .u64 n) (hne : TS ≠ t) (hg : w.grownBy w' (some gx)) (hoff : 0 < C → ∀ u ∈ us, u.ownBlock ≠ some gx) : TabS .u64 4294967296 w' g TS us T := by
 have hgx : g ≠ gx := fun e => by
  have h1 := h.1.1
  unfold Blk at h1 hB
  rw [e, hB] at h1
  injection h1 with h1
  injection h1 with _ h1
  exact hne h1.symm
 refine ⟨h.1.grown hg (fun e => hgx (by injection e with e; exact e.symm)), h.2.1, fun i u r hu hr => ?_⟩
 have hsl := h.2.2 i u r hu hr
 by_cases h0 : r = []
 ·subst h0; exact hsl.any
 ·have hC : 0 < C := by rw [← hs.2 r (List.mem_of_getElem? hr)]; exact List.length_pos_iff.2 h0
  exact hsl.off hB hno hg (hoff hC u (List.mem_of_getElem? hu))
theorem RowX.keepS {w w' : World} {base : Nat} {e : TypeId} {V : Value} {vs : List Value} {v : Value} {l : List Nat} (h : RowX isI w base e V vs) (hg : w.grownBy w' V.ownBlock) (hs : IsS w .u64 v l) : IsS w' .u64 v l := by
  cases ho : V.ownBlock with
  | none => rw [ho] at hg; exact hs.below ⟨hg.os, hg.tape, hg.output, hg.size, fun k hk => hg.block k hk (by simp)⟩
  | some g =>
    rw [ho] at hg
    obtain ⟨cs, h1, h2⟩ := h.2 g ho
    exact Go.Proofs.YtmpalajamfiiiaaGreat.flow.off hs h1 (fun c hc n => by obtain ⟨n', rfl⟩ := h2 c hc; simp) hg
theorem RowX.notBlk {w : World} {base g : Nat} {e t : TypeId} {V : Value} {vs : List Value} {cs : Array Value} (h : RowX isI w base e V vs) (hT : Blk w g t cs) (hne : e ≠ t) : ∀ x, V.ownBlock = some x → some g ≠ some x := fun x e1 e2 => by
 obtain ⟨cs, h1, _⟩ := h.2 x e1
 injection e2 with e2
 subst e2
 unfold Blk at hT
 rw [h1] at hT
 injection hT with hT
 injection hT with _ hT
 exact hne hT
theorem RowX.keepBlk {w w' : World} {base g : Nat} {e t : TypeId} {V : Value} {vs : List Value} {cs : Array Value} (h : RowX isI w base e V vs) (hT : Blk w g t cs) (hne : e ≠ t) (hg : w.grownBy w' V.ownBlock) : Blk w' g t cs := by
  cases ho : V.ownBlock with
  | none => rw [ho] at hg; exact hT.below ⟨hg.os, hg.tape, hg.output, hg.size, fun k hk => hg.block k hk (by simp)⟩
  | some x =>
    rw [ho] at hg
    exact Blk.grown hT hg (fun e => h.notBlk hT hne x ho (by rw [e]))
theorem grown_set3 (w : World) (g : Nat) (x y z : Value) : w.grownBy (((w.setCell ⟨g, 0, none⟩ x).setCell ⟨g, 1, none⟩ y).setCell ⟨g, 2, none⟩ z) (some g) := ((grown_set w g 0 x).trans (grown_set _ g 1 y)).trans (grown_set _ g 2 z)
theorem no3 {k : IntKind} {A D : Option Addr} {n m c e : Nat} (b : Bool) : ∀ x ∈ (#[.bool b, .slice A n c, .slice D m e] : Array Value), ∀ z, x ≠ .int k z := by
 intro x hx z
 have : x = .bool b ∨ x = .slice A n c ∨ x = .slice D m e := by simpa using hx
 rcases this with rfl | rfl | rfl <;> simp
theorem OffU.set {us : List Value} {G : Nat → Prop} (h : OffU us G) {u : Value} (hu : ∀ g, u.ownBlock = some g → ¬ G g) (i : Nat) : OffU (us.set i u) G := fun x hx g hg => by
 rcases List.mem_or_eq_of_mem_set hx with hx | rfl
 ·exact h x hx g hg
 ·exact hu g hg
/-- The pivots as a row of ints. -/
def pI (ps : List Nat) : List Value := vi (ps.map fun (i : Nat) => (i : Int))
theorem pI_len (ps : List Nat) : (pI ps).length = ps.length := by unfold pI; rw [vi_len, List.length_map]
theorem pI_snoc (ps : List Nat) (a : Nat) : pI ps ++ [.int .i64 (a : Int)] = pI (ps ++ [a]) := by unfold pI vi; simp
/-- What down hands back: the pivots, a number; and the table is changed in its place. -/
structure DownEnd (T0 : List (List Rat)) (g n C pl S : Nat) (w : World) (v v5 : Value) (w' : World) (T : List (List Rat)) (us : List Value) (ps : List Nat) (d : Rat) : Prop where
 dwn : Dwn T0 T n C pl ps d S
 tab : TabS .u64 4294967296 w' g 64 us T
 piv : RowX isI w' w.heap.size 3 v (pI ps)
 num : IsQ w' v5 d
 len : lenQ d (1 + 400 * ps.length)
 own : w.grownBy w' (some g)
def RetDown (T0 : List (List Rat)) (g n C pl S : Nat) (w : World) (e : Ending) (w' : World) : Prop := ∃ v v5 T us ps d, e = .returned (.tuple #[v, v5]) ∧ DownEnd T0 g n C pl S w v v5 w' T us ps d
set_option maxHeartbeats 6400000 in
set_option maxRecDepth 100000 in
theorem gdown_any (g n C pl S : Nat) (us : List Value) (T0 : List (List Rat)) (w : World) (h : TabS .u64 4294967296 w g 64 us T0) (hc : Hid (shp T0 n C ∧ pl ≤ C ∧ n ≤ 5 ∧ C ≤ 1000 ∧ rowsL T0 S ∧ (S + 1) * 2 ^ (n - 1) ≤ 400)) :
    Calls Tryz.prog 34 #[.slice (some ⟨g, 0, none⟩) n n, .int .i64 (pl : Int)] w (RetDown T0 g n C pl S w) := by
  have hn5 := hc.out.2.2.1
  have hC := hc.out.2.2.2.1
  have hpl := hc.out.2.1
  obtain ⟨O, hO⟩ : ∃ O : Rat, O = 1 := ⟨_, rfl⟩
  have CO : ∀ w, Calls Tryz.prog 30 #[.int .i64 1] w (RetQ O w) := fun w => by
    have h := of8_any 1 w (by omega) (by omega)
    rwa [show ((1 : Int) : Rat) = O by rw [hO]; rfl] at h
  have HO := Lib.hid hO
  clear hO
  go_enter Tryz.func34, Tryz.ntmps34
  go_wp2_with fail
  refine (CO _).mono ?_
  rintro e w2 ⟨v2, rfl, k2, -, b2⟩
  obtain ⟨u2, t2, rfl, s2, d2⟩ := k2
  obtain ⟨A2, c2, rfl, _⟩ := id s2
  obtain ⟨D2, e2, rfl, _⟩ := id d2
  have ba := below_alloc (w := w) (Nat.le_refl _) (.cells #[.bool false, .slice none 0 0, .slice none 0 0] 44)
  have hs1 : (w.alloc (.cells #[.bool false, .slice none 0 0, .slice none 0 0] 44)).heap.size = w.heap.size + 1 := by first | rfl | exact Array.size_push _
  have BR0 := (Blk.new w 44 #[.bool false, .slice none 0 0, .slice none 0 0]).below b2
  have ba2 := below_alloc (w := w2) (Nat.le_refl _) (.cells #[.bool (ngB O.num), .slice A2 (digs 4294967296 O.num.natAbs).length c2, .slice D2 (digs 4294967296 O.den).length e2] 44)
  have BP0 := Blk.new w2 44 #[.bool (ngB O.num), .slice A2 (digs 4294967296 O.num.natAbs).length c2, .slice D2 (digs 4294967296 O.den).length e2]
  have hgP : w.heap.size < w2.heap.size := by have := b2.size; omega
  have hglt : g < w.heap.size := h.lt
  have bb2 := ba.trans (b2.mono ba.size)
  have TS0 := (h.below bb2).below ba2
  have HG0 : Hid (w.grownBy _ (some g)) := below_none (bb2.trans (ba2.mono bb2.size)) (some g)
  have s20 := s2.below ba2
  have d20 := d2.below ba2
  have BR1 := BR0.below ba2
  have HD0 : Hid (Dwn T0 T0 n C 0 [] O S) := by
    show Dwn T0 T0 n C 0 [] O S
    rw [HO.out]
    exact Dwn.start hc.out.1 hc.out.2.2.2.2.1
  have HL0 : Hid (lenQ O (1 + 400 * ([] : List Nat).length)) := by
    show lenQ O _
    rw [HO.out]
    exact lenQ_01 (.inr rfl)
  have HO0 : Hid (0 < C → OffU us (fun x => x = w.heap.size ∨ x = w2.heap.size)) := by
    show _ → _
    intro hC0 u hu x hx hG
    obtain ⟨i, hi⟩ := List.mem_iff_getElem?.1 hu
    obtain ⟨r, hr⟩ : ∃ r, T0[i]? = some r := ⟨_, List.getElem?_eq_getElem (by rw [← h.2.1]; exact (List.getElem?_eq_some_iff.1 hi).1)⟩
    have hsl := h.2.2 i u r hi hr
    have hr0 : r ≠ [] := List.length_pos_iff.1 (by rw [hc.out.1.2 r (List.mem_of_getElem? hr)]; exact hC0)
    obtain ⟨g', o', c', rfl, hlt, _⟩ := hsl.place hr0
    have e1 : g' = x := by simpa [Value.ownBlock] using hx
    rcases hG with e2 | e2 <;> omega
  clear ba b2 ba2 bb2 s2 d2 BR0 hs1
  go_wp2
  go_loopw [6, 15] (fun v6 v15 wr => ∃ (j : Nat) (T : List (List Rat)) (us' : List Value) (ps : List Nat) (d : Rat) (u t : Value), j ≤ pl ∧ Hid (Dwn T0 T n C j ps d S) ∧ TabS .u64 4294967296 wr g 64 us' T ∧ RowX isI wr w.heap.size 3 v6 (pI ps) ∧ Blk wr w2.heap.size 44 #[.bool (ngB d.num), u, t] ∧ IsS wr .u64 u (digs 4294967296 d.num.natAbs) ∧ IsS wr .u64 t (digs 4294967296 d.den) ∧ Blk wr w.heap.size 44 #[.bool false, .slice none 0 0, .slice none 0 0] ∧ Hid (lenQ d (1 + 400 * ps.length)) ∧ Hid (w.grownBy wr (some g)) ∧ Hid (0 < C → OffU us' (fun x => x = w.heap.size ∨ x = w2.heap.size)) ∧ v15 = .int .i64 (j : Int)) (fun _ v15 _ => pl - (intOf v15).toNat)
  case atStart => exact ⟨0, T0, us, [], O, _, _, by omega, HD0, TS0, rowX_nil _ _ _ _, BP0, s20, d20, BR1, HL0, HG0, HO0, rfl⟩
  case round =>
    clear TS0 BP0 s20 d20 BR1 HL0 HG0 HD0 HO0 CO HO
    obtain ⟨j, T, us', ps, d, u, t, hj, HD, TS, RP, BP, su, st, BR, HLD, HG, HOF, rfl⟩ := hrel
    obtain ⟨Au, cu, rfl, _⟩ := id su
    obtain ⟨At, ct, rfl, _⟩ := id st
    by_cases hlt : j < pl
    · obtain ⟨A6, c6, e6⟩ := RowV.slice RP.1
      rw [pI_len] at e6
      subst e6
      have hkn : ps.length ≤ n := HD.out.ech.le
      by_cases hk : ps.length < n
      · have hnk : ¬ n = ps.length := by omega
        have hTl : T.length = n := HD.out.sh.1
        have SL := TS.sub (o := ps.length) (m := n - ps.length) (c := n - ps.length) (by omega) (Nat.le_refl _) (by unfold maxLen; omega)
        have hj : j < C := by omega
        have HSH := Lib.hid HD.out.sh
        go_wp2_with fail
        refine (gfirst_any _ _ j _ SL (fun r hr => by rw [HSH.out.2 r (List.mem_of_mem_drop (List.mem_of_mem_take hr))]; omega)).mono ?_
        rintro e w4 ⟨f, rfl, hf, hz, hnz, b4⟩
        have hLl : ((T.drop ps.length).take (n - ps.length)).length = n - ps.length := by rw [List.length_take, List.length_drop]; omega
        have hent : ∀ i, i < n - ps.length → entF ((T.drop ps.length).take (n - ps.length)) i j = entF T (ps.length + i) j := fun i hi => by
          have e : ((T.drop ps.length).take (n - ps.length)).getD i [] = T.getD (ps.length + i) [] := by rw [List.getD_eq_getElem?_getD, List.getElem?_take_of_lt hi, List.getElem?_drop, List.getD_eq_getElem?_getD]
          unfold entF
          rw [e]
        rw [hLl] at hf hnz
        have TS4 := TS.below b4
        have RP4 := RP.below b4
        have BP4 := BP.below b4
        have su4 := su.below b4
        have st4 := st.below b4
        have BR4 := BR.below b4
        have HG4 : Hid (w.grownBy w4 (some g)) := below_grown HG.out b4
        clear TS RP BP su st BR HG SL
        by_cases hfl : f < n - ps.length
        · have hne : entF T (ps.length + f) j ≠ 0 := by rw [← hent f hfl]; exact hnz hfl
          have HNE := Lib.hid hne
          clear hz hnz hent hne hLl
          go_upto_if 30 with (fail)
          have hb28 : ((f : Int) == ((n - ps.length : Nat) : Int)) = false := by rw [beq_eq_false_iff_ne]; omega
          obtain ⟨B30, hB⟩ : ∃ B, B = decide (0 < f) := ⟨_, rfl⟩
          rw [hb28, ← hB]
          have HB := Lib.hid hB
          clear hb28 hB
          go_cut [] from 31 to 44 (fun wx => ∃ (us2 : List Value) (d2 : Rat) (u2 t2 : Value), TabS .u64 4294967296 wx g 64 us2 (swapT T ps.length (ps.length + f)) ∧ Hid (OffU us2 (fun x => x = w.heap.size ∨ x = w2.heap.size)) ∧ RowX isI wx w.heap.size 3 (.slice A6 ps.length c6) (pI ps) ∧ Blk wx w2.heap.size 44 #[.bool (ngB d2.num), u2, t2] ∧ IsS wx .u64 u2 (digs 4294967296 d2.num.natAbs) ∧ IsS wx .u64 t2 (digs 4294967296 d2.den) ∧ Blk wx w.heap.size 44 #[.bool false, .slice none 0 0, .slice none 0 0] ∧ Hid (d2 = if ps.length + f = ps.length then d else -d) ∧ Hid (w.grownBy wx (some g)))
          case first =>
            by_cases hf0 : f = 0
            · subst hf0
              have hb : B30 = false := HB.out
              subst hb
              have e1 : swapT T ps.length (ps.length + 0) = T := swapT_self (by omega)
              have e2 : d = if ps.length + 0 = ps.length then d else -d := (if_pos rfl).symm
              go_wp2_with fail
              go_meet
              exact ⟨us', d, _, _, by rw [e1]; exact TS4, HOF.out (by omega), RP4, BP4, su4, st4, BR4, e2, HG4.out⟩
            · have hb : B30 = true := by rw [HB.out]; exact decide_eq_true (by omega)
              subst hb
              obtain ⟨rk, hrk, hrkl⟩ := row_ex HSH.out (show ps.length < n by omega)
              obtain ⟨rf, hrf, hrfl⟩ := row_ex HSH.out (show ps.length + f < n by omega)
              obtain ⟨Ak, ck, huk, eck, srk⟩ := TS4.at_ hrk
              obtain ⟨Af, cf, huf, ecf, srf⟩ := TS4.at_ hrf
              have fk := TS4.frozenAt ps.length
              have ff := TS4.frozenAt (ps.length + f)
              have hpos : 0 < n - ps.length := by omega
              go_upto_region 10 with (fail)
              go_region
              all_goals
                have TS5 := TS4.stored ps.length srf
                have srk5 := TS4.1.keepF (grown_set w4 g ps.length (.slice Af rf.length cf)) srk
                have TS6 := TS5.stored (ps.length + f) srk5
                rw [show (T.set ps.length rf).set (ps.length + f) rk = swapT T ps.length (ps.length + f) by unfold swapT; rw [getT hrk, getT hrf]] at TS6
                have G8 := below_grown ((grown_set w4 g ps.length (.slice Af rf.length cf)).trans (grown_set _ g (ps.length + f) (.slice Ak rk.length ck))) (Below.refl _ ((w4.setCell ⟨g, ps.length, none⟩ (.slice Af rf.length cf)).setCell ⟨g, ps.length + f, none⟩ (.slice Ak rk.length ck))).drew
                have TS8 := TS6.below (Below.refl _ _).drew
                have HO8 : Hid (OffU ((us'.set ps.length (.slice Af rf.length cf)).set (ps.length + f) (.slice Ak rk.length ck)) (fun x => x = w.heap.size ∨ x = w2.heap.size)) := ((HOF.out (by omega)).set (fun x hx => HOF.out (by omega) _ (List.mem_of_getElem? huf) x hx) ps.length).set (fun x hx => HOF.out (by omega) _ (List.mem_of_getElem? huk) x hx) (ps.length + f)
                have RP8 := RP4.grown G8 (fun x e1 e2 => RP4.notTab TS4.1 (by decide) (by rw [e1, e2]))
                have BP8 := Blk.grown BP4 G8 (by omega)
                have BR8 := Blk.grown BR4 G8 (by omega)
                have su8 := TS4.1.keep G8 su4
                have st8 := TS4.1.keep G8 st4
                have HG8 : Hid (w.grownBy _ (some g)) := HG4.out.trans G8
                have kd : IsQ _ (.agg #[.bool (ngB d.num), .slice Au (digs 4294967296 d.num.natAbs).length cu, .slice At (digs 4294967296 d.den).length ct]) d := ⟨_, _, rfl, su8, st8⟩
                obtain ⟨V0, V1, V2, _, _, _⟩ := three BP8
                have HLd : Hid (lenQ d 100000) := HLD.out.mono (by have := HD.out.ech.le; omega)
                clear TS5 TS6 srk5 G8 TS4 RP4 BP4 BR4 su4 st4 HG4 srk srf eck ecf fk ff su8 st8
                rw [hrfl, hrkl] at *
                obtain ⟨M, hM⟩ : ∃ M, M = -d := ⟨_, rfl⟩
                have CN : ∀ w a, IsQ w a d → Calls Tryz.prog 60 #[a] w (RetQ M w) := fun w a h => by rw [hM]; exact neg8_any a d w h HLd.out
                have HM := Lib.hid hM
                clear hM
                go_wp2_with fail
                refine (CN _ _ kd).mono ?_
                rintro e w9 ⟨v9, rfl, k9, -, b9⟩
                obtain ⟨u9, t9, rfl, s9, d9⟩ := k9
                obtain ⟨A9, c9, rfl, _⟩ := id s9
                obtain ⟨D9, e9, rfl, _⟩ := id d9
                have BP9 := BP8.below b9
                obtain ⟨X0, X1, X2, F0, F1, F2⟩ := three BP9
                have G10 := grown_set3 w9 w2.heap.size (.bool (ngB M.num)) (.slice A9 (digs 4294967296 M.num.natAbs).length c9) (.slice D9 (digs 4294967296 M.den).length e9)
                have B10 := blk_set3 BP9 (.bool (ngB M.num)) (.slice A9 (digs 4294967296 M.num.natAbs).length c9) (.slice D9 (digs 4294967296 M.den).length e9)
                have TS10 := (TS8.below b9).offQ (swapT_shp HSH.out (by omega) (by omega)) BP9 (no3 _) (by decide) G10 (fun hC0 u hu e => HO8.out u hu _ e (.inr rfl))
                have RP10 := (RP8.below b9).grown G10 (fun x e1 e2 => (RP8.below b9).notBlk BP9 (by decide) x e1 e2)
                have BR10 := Blk.grown (BR8.below b9) G10 (by omega)
                have s10 := Go.Proofs.YtmpalajamfiiiaaGreat.flow.off s9 BP9 (no3 _) G10
                have d10 := Go.Proofs.YtmpalajamfiiiaaGreat.flow.off d9 BP9 (no3 _) G10
                have HG10 : Hid (w.grownBy _ (some g)) := grown_new (below_grown HG8.out b9) G10 (by omega)
                have E2 : Hid (M = if ps.length + f = ps.length then d else -d) := HM.out.trans (if_neg (by omega)).symm
                clear TS8 RP8 BP8 BR8 BP9 s9 d9 kd
                go_wp2
                go_meet
                exact ⟨_, M, _, _, TS10, HO8, RP10, B10, s10, d10, BR10, E2, HG10.out⟩
          case rest =>
            obtain ⟨us2, d2, u2, t2, TS5, HO5, RP5, BP5, su5, st5, BR5, HD2, HG5⟩ := hcut
            obtain ⟨w5, hw5⟩ : ∃ w5, w5 = wc := ⟨_, rfl⟩
            subst hw5
            clear TS4 RP4 BP4 su4 st4 BR4 HG4 HOF HB
            obtain ⟨T1, hT1⟩ : ∃ T1, T1 = swapT T ps.length (ps.length + f) := ⟨_, rfl⟩
            rw [← hT1] at TS5
            have hs1 : shp T1 n C := by rw [hT1]; exact swapT_shp HSH.out (by omega) (by omega)
            obtain ⟨r1, hr1, hrl1, hq1⟩ := entF_at hs1 hk hj
            obtain ⟨q1, hqe⟩ : ∃ q1, q1 = entF T1 ps.length j := ⟨_, rfl⟩
            rw [← hqe] at hq1
            have hqf : q1 = entF T (ps.length + f) j := by
              rw [hqe, hT1, swapT_ent HSH.out (by omega) (by omega)]
              exact congrFun (if_pos rfl) j
            have hq0 : q1 ≠ 0 := by rw [hqf]; exact HNE.out
            have hR1 : rowsL T1 399 := by rw [hT1]; exact swapT_rows HSH.out (by omega) (by omega) (HD.out.small hc.out.2.2.2.2.2)
            have hLr : rowL r1 399 := hR1 r1 (List.mem_of_getElem? hr1)
            obtain ⟨Dn, hDn⟩ : ∃ Dn, Dn = d2 * q1 := ⟨_, rfl⟩
            obtain ⟨X, hX⟩ : ∃ X, X = q1⁻¹ := ⟨_, rfl⟩
            have hLX : lenQ X 399 := by rw [hX]; exact lenQ_inv hq0 (hLr.len q1 (List.mem_of_getElem? hq1))
            have hL2 : lenQ d2 (1 + 400 * ps.length) := by
              rw [HD2.out]
              by_cases e : ps.length + f = ps.length
              · rw [if_pos e]; exact HLD.out
              · rw [if_neg e]; exact lenQ_neg HLD.out
            have hLn : lenQ Dn (1 + 400 * (ps.length + 1)) := by rw [hDn]; exact (lenQ_mul hL2 (hLr.len q1 (List.mem_of_getElem? hq1))).mono (by omega)
            obtain ⟨Au2, cu2, rfl, _⟩ := id su5
            obtain ⟨At2, ct2, rfl, _⟩ := id st5
            have CM : ∀ w a b, IsQ w a d2 → IsQ w b q1 → Calls Tryz.prog 70 #[a, b] w (RetQ Dn w) := fun w a b h1 h2 => by rw [hDn]; exact mul8_any a d2 b q1 w h1 h2 (hL2.mono (by omega)) ((hLr.len q1 (List.mem_of_getElem? hq1)).mono (by omega))
            have CV : ∀ w a, IsQ w a q1 → Calls Tryz.prog 71 #[a] w (RetQF X 0 w) := fun w a h1 => by rw [hX]; exact inv8_ok a q1 w h1 ((hLr.len q1 (List.mem_of_getElem? hq1)).mono (by omega)) hq0
            have HE := Lib.hid (And.intro hT1 (And.intro hs1 (And.intro hr1 (And.intro hrl1 (And.intro hq1 (And.intro hqe (And.intro hqf (And.intro hq0 (And.intro hR1 (And.intro hDn (And.intro hX (And.intro hLX hLn))))))))))))
            have HLR := Lib.hid hLr
            clear hT1 hs1 hqe hqf hq0 hR1 hDn hX hLX hLn hL2 hLr hrl1
            have bd := (Below.refl w5.heap.size w5).drew
            have TSd := TS5.below bd
            have RPd := RP5.below bd
            have BPd := BP5.below bd
            have sud := su5.below bd
            have std := st5.below bd
            have BRd := BR5.below bd
            have HGd : Hid (w.grownBy w5.drew (some g)) := below_grown HG5.out bd
            obtain ⟨Ar, cr, hur, ecr, sr⟩ := TSd.at_ hr1
            obtain ⟨gr, or, uq, tq, rfl, hia, k0, k1, k2, sq, dq⟩ := sr.at_ hq1
            obtain ⟨Aq, cq, rfl, _⟩ := id sq
            obtain ⟨Dq, eq, rfl, _⟩ := id dq
            have hix := fun w => index3 (P := Tryz.prog) Tryz.underlying64 (by kernel_rfl) (g := gr) (o := or) (c := cr) hia w
            have kq : IsQ w5.drew (.agg #[.bool (ngB q1.num), .slice Aq (digs 4294967296 q1.num.natAbs).length cq, .slice Dq (digs 4294967296 q1.den).length eq]) q1 := ⟨_, _, rfl, sq, dq⟩
            have kd : IsQ w5.drew (.agg #[.bool (ngB d2.num), .slice Au2 (digs 4294967296 d2.num.natAbs).length cu2, .slice At2 (digs 4294967296 d2.den).length ct2]) d2 := ⟨_, _, rfl, sud, std⟩
            obtain ⟨V0, V1, V2, _, _, _⟩ := three BPd
            have hpos : 0 < n - ps.length := by omega
            clear TS5 RP5 BP5 su5 st5 BR5 HG5 bd sr hr1 hq1
            go_upto_region 12 with (fail)
            go_cut [] from 45 to 52 (fun wx => ∃ u3 t3 : Value, TabS .u64 4294967296 wx g 64 us2 T1 ∧ RowX isI wx w.heap.size 3 (.slice A6 ps.length c6) (pI ps) ∧ Blk wx w2.heap.size 44 #[.bool (ngB Dn.num), u3, t3] ∧ IsS wx .u64 u3 (digs 4294967296 Dn.num.natAbs) ∧ IsS wx .u64 t3 (digs 4294967296 Dn.den) ∧ Blk wx w.heap.size 44 #[.bool false, .slice none 0 0, .slice none 0 0] ∧ Hid (w.grownBy wx (some g)))
            case first =>
             go_region_law (go_simp; go_at_call 70; refine (CM _ _ _ (by exact kd) (by exact kq)).mono ?_; rintro e w6 ⟨v6, rfl, k6, -, b6⟩; obtain ⟨u6, t6, rfl, s6, d6⟩ := k6; obtain ⟨A7, c7, rfl, _⟩ := id s6; obtain ⟨D7, e7, rfl, _⟩ := id d6; have BP6 := BPd.below b6; obtain ⟨X0, X1, X2, F0, F1, F2⟩ := three BP6)
             all_goals
              have G7 := grown_set3 w6 w2.heap.size (.bool (ngB Dn.num)) (.slice A7 (digs 4294967296 Dn.num.natAbs).length c7) (.slice D7 (digs 4294967296 Dn.den).length e7)
              have B7 := blk_set3 BP6 (.bool (ngB Dn.num)) (.slice A7 (digs 4294967296 Dn.num.natAbs).length c7) (.slice D7 (digs 4294967296 Dn.den).length e7)
              have TS7 := (TSd.below b6).offQ HE.out.2.1 BP6 (no3 _) (by decide) G7 (fun hC0 u hu e => HO5.out u hu _ e (.inr rfl))
              have RP7 := (RPd.below b6).grown G7 (fun x e1 e2 => (RPd.below b6).notBlk BP6 (by decide) x e1 e2)
              have BR7 := Blk.grown (BRd.below b6) G7 (by omega)
              have s7 := Go.Proofs.YtmpalajamfiiiaaGreat.flow.off s6 BP6 (no3 _) G7
              have d7 := Go.Proofs.YtmpalajamfiiiaaGreat.flow.off d6 BP6 (no3 _) G7
              have HG7 : Hid (w.grownBy _ (some g)) := grown_new (below_grown HGd.out b6) G7 (by omega)
              clear TSd RPd BPd BRd HGd BP6 s6 d6 kq kd sud std sq dq k0 k1 k2 ecr hix hur V0 V1 V2
              go_wp2
              go_meet
              exact ⟨_, _, TS7, RP7, B7, s7, d7, BR7, HG7⟩
            case rest =>
              obtain ⟨u3, t3, TS7, RP7, BP7, su7, st7, BR7, HG7⟩ := hcut
              obtain ⟨w7, hw7⟩ : ∃ w7, w7 = wc := ⟨_, rfl⟩
              subst hw7
              clear TSd RPd BPd BRd HGd kq kd sud std sq dq k0 k1 k2 ecr hix hur V0 V1 V2 CM
              obtain ⟨Ar, cr, hur, ecr, sr⟩ := TS7.at_ HE.out.2.2.1
              obtain ⟨gr, or, uq, tq, rfl, hia, k0, k1, k2, sq, dq⟩ := sr.at_ HE.out.2.2.2.2.1
              obtain ⟨Aq, cq, rfl, _⟩ := id sq
              obtain ⟨Dq, eq, rfl, _⟩ := id dq
              have hix := fun w => index3 (P := Tryz.prog) Tryz.underlying64 (by kernel_rfl) (g := gr) (o := or) (c := cr) hia w
              have kq : IsQ w7 (.agg #[.bool (ngB q1.num), .slice Aq (digs 4294967296 q1.num.natAbs).length cq, .slice Dq (digs 4294967296 q1.den).length eq]) q1 := ⟨_, _, rfl, sq, dq⟩
              clear sr
              go_wp2_with fail
              refine (CV _ _ kq).mono ?_
              rintro e w8 ⟨v8, rfl, k8, -, b8⟩
              obtain ⟨u8, t8, rfl, s8, d8⟩ := k8
              obtain ⟨A8, c8, rfl, _⟩ := id s8
              obtain ⟨D8, e8, rfl, _⟩ := id d8
              have ba := below_alloc (w := w8) (Nat.le_refl _) (.cells #[.bool (ngB X.num), .slice A8 (digs 4294967296 X.num.natAbs).length c8, .slice D8 (digs 4294967296 X.den).length e8] 44)
              have BU := Blk.new w8 44 #[.bool (ngB X.num), .slice A8 (digs 4294967296 X.num.natAbs).length c8, .slice D8 (digs 4294967296 X.den).length e8]
              have bb := b8.trans (ba.mono b8.size)
              have bd := (Below.refl (w8.alloc (.cells #[.bool (ngB X.num), .slice A8 (digs 4294967296 X.num.natAbs).length c8, .slice D8 (digs 4294967296 X.den).length e8] 44)).heap.size (w8.alloc (.cells #[.bool (ngB X.num), .slice A8 (digs 4294967296 X.num.natAbs).length c8, .slice D8 (digs 4294967296 X.den).length e8] 44))).drew
              have bb9 := bb.trans (bd.mono bb.size)
              have TS9 := TS7.below bb9
              have RP9 := RP7.below bb9
              have BP9 := BP7.below bb9
              have su9 := su7.below bb9
              have st9 := st7.below bb9
              have BR9 := BR7.below bb9
              have HG9 : Hid (w.grownBy _ (some g)) := below_grown HG7.out bb9
              have BU9 := BU.below bd
              obtain ⟨V0, V1, V2, _, _, _⟩ := three BU9
              have kX : IsQ _ (.agg #[.bool (ngB X.num), .slice A8 (digs 4294967296 X.num.natAbs).length c8, .slice D8 (digs 4294967296 X.den).length e8]) X := ⟨_, _, rfl, s8.below (ba.trans (bd.mono ba.size)), d8.below (ba.trans (bd.mono ba.size))⟩
              obtain ⟨Ar2, cr2, hur2, ecr2, sr2⟩ := TS9.at_ HE.out.2.2.1
              have HLS : Hid (r1.length ≤ 1000 ∧ (∀ x ∈ r1, lenQ x 399) ∧ lenQ X 399 ∧ 399 ≤ 4900 ∧ 399 ≤ 4900) := ⟨by rw [HE.out.2.2.2.1]; exact hC, HLR.out.len, HE.out.2.2.2.2.2.2.2.2.2.2.2.1, by omega, by omega⟩
              have HNL : Hid ((scaleq r1 X).length ≤ 1000000000) := by
                show _ ≤ _
                rw [scaleq_len]; have := HLS.out.1; omega
              have hkl : ps.length < T1.length := by rw [HE.out.2.1.1]; exact hk
              clear TS7 RP7 BP7 su7 st7 BR7 HG7 ba BU bb bd bb9 s8 d8 kq sq dq k0 k1 k2 ecr hix hur CV
              go_upto_region 14 with (fail)
              go_cut [] from 63 to 69 (fun wx => ∃ us3 : List Value, TabS .u64 4294967296 wx g 64 us3 (T1.set ps.length (scaleq r1 X)) ∧ Hid (OffU us3 (fun x => x = w.heap.size ∨ x = w2.heap.size)) ∧ RowX isI wx w.heap.size 3 (.slice A6 ps.length c6) (pI ps) ∧ Blk wx w2.heap.size 44 #[.bool (ngB Dn.num), u3, t3] ∧ IsS wx .u64 u3 (digs 4294967296 Dn.num.natAbs) ∧ IsS wx .u64 t3 (digs 4294967296 Dn.den) ∧ Blk wx w.heap.size 44 #[.bool false, .slice none 0 0, .slice none 0 0] ∧ Hid (w.grownBy wx (some g)))
              case first =>
                go_region_law (go_simp; go_at_call 72; refine (fscale_own _ _ r1 X 399 399 _ (by exact sr2) (by exact kX) HLS.out).mono ?_; rintro e w10 ⟨gn, rfl, RNn, hgn, b10⟩; have sR := RNn.sl rfl HNL.out; have TS10 := TS9.below b10; obtain ⟨u0, c10⟩ := TS10.cellAt (i := ps.length) hkl; have f10 := TS10.frozenAt ps.length)
                all_goals
                  have TS11 := TS10.stored ps.length sR
                  have G11 := grown_set w10 g ps.length (.slice (some ⟨gn, 0, none⟩) (scaleq r1 X).length (scaleq r1 X).length)
                  have hb10 := b10.size
                  have HO11 : Hid (OffU (us2.set ps.length (.slice (some ⟨gn, 0, none⟩) (scaleq r1 X).length (scaleq r1 X).length)) (fun x => x = w.heap.size ∨ x = w2.heap.size)) := HO5.out.set (fun x hx hG => by
                    have h1 : gn = x := by simpa [Value.ownBlock] using hx
                    have h2 := BP9.lt
                    have h3 := BR9.lt
                    rcases hG with e | e <;> omega) ps.length
                  have RP11 := (RP9.below b10).grown G11 (fun x e1 e2 => (RP9.below b10).notTab TS10.1 (by decide) (by rw [e1, e2]))
                  have BP11 := Blk.grown (BP9.below b10) G11 (by omega)
                  have BR11 := Blk.grown (BR9.below b10) G11 (by omega)
                  have su11 := TS10.1.keep G11 (su9.below b10)
                  have st11 := TS10.1.keep G11 (st9.below b10)
                  have HG11 : Hid (w.grownBy _ (some g)) := (below_grown HG9.out b10).trans G11
                  clear TS9 RP9 BP9 su9 st9 BR9 HG9 TS10 sR kX sr2
                  go_wp2
                  go_meet
                  exact ⟨_, TS11, HO11, RP11, BP11, su11, st11, BR11, HG11⟩
              case rest =>
                obtain ⟨us3, TS9', HO9, RP9', BP9', su9', st9', BR9', HG9'⟩ := hcut
                obtain ⟨w9, hw9⟩ : ∃ w9, w9 = wc := ⟨_, rfl⟩
                subst hw9
                clear TS9 RP9 BP9 su9 st9 BR9 HG9 BU9 V0 V1 V2 kX hur2 ecr2 sr2 HNL HLS HO5
                obtain ⟨T2, hT2⟩ : ∃ T2, T2 = T1.set ps.length (scaleq r1 X) := ⟨_, rfl⟩
                rw [← hT2] at TS9'
                have eT2 : T2 = scaleT (swapT T ps.length (ps.length + f)) ps.length (entF (swapT T ps.length (ps.length + f)) ps.length j)⁻¹ := by
                  rw [hT2, scaleT, ← HE.out.1, getT HE.out.2.2.1, HE.out.2.2.2.2.2.2.2.2.2.2.1, HE.out.2.2.2.2.2.1]
                have hs2 : shp T2 n C := by rw [hT2]; exact shp_set HE.out.2.1 (by rw [scaleq_len]; exact HE.out.2.2.2.1)
                have hp2 : T2[ps.length]? = some (scaleq r1 X) := by rw [hT2]; exact List.getElem?_set_self hkl
                have hR2 : rowsL T2 399 := by
                  rw [hT2]
                  intro x hx
                  rcases List.mem_or_eq_of_mem_set hx with hx | rfl
                  · exact HE.out.2.2.2.2.2.2.2.2.1 x hx
                  · rw [HE.out.2.2.2.2.2.2.2.2.2.2.1]
                    exact HLR.out.scale (List.mem_of_getElem? HE.out.2.2.2.2.1) HE.out.2.2.2.2.2.2.2.1
                have HPV : Hid (clrM T2 (fun i => decide (ps.length < i)) (scaleq r1 X) j n = pivT T (fun i => decide (ps.length < i)) ps.length (ps.length + f) j n) := by
                  show _ = _
                  unfold pivT
                  rw [← eT2, getT hp2]
                have HDN : Hid (Dwn T0 (pivT T (fun i => decide (ps.length < i)) ps.length (ps.length + f) j n) n C (j + 1) (ps ++ [j]) Dn S) := by
                  have h1 := HD.out.pivot hj (show ps.length ≤ ps.length + f by omega) (show ps.length + f < n by omega) HNE.out
                  have h2 : Dn = (if ps.length + f = ps.length then d else -d) * entF T (ps.length + f) j := by rw [HE.out.2.2.2.2.2.2.2.2.2.1, HD2.out, HE.out.2.2.2.2.2.2.1]
                  show Dwn _ _ _ _ _ _ _ _
                  rw [h2]; exact h1
                have HLL : Hid (lenQ Dn (1 + 400 * (ps ++ [j]).length)) := by
                  show lenQ _ _
                  rw [List.length_append]; exact HE.out.2.2.2.2.2.2.2.2.2.2.2.2
                have HPS : Hid (pI ps ++ [.int .i64 (j : Int)] = pI (ps ++ [j])) := pI_snoc ps j
                have HRP2 : Hid (rowL (scaleq r1 X) 399) := hR2 _ (List.mem_of_getElem? hp2)
                have hpl2 : Hid ((scaleq r1 X).length = C) := hs2.2 _ (List.mem_of_getElem? hp2)
                have H2 := Lib.hid (And.intro hs2 (And.intro hp2 hR2))
                have bd := (Below.refl w9.heap.size w9).drew
                have TSd := TS9'.below bd
                obtain ⟨Ap, cp, hup, ecp, sp⟩ := TSd.at_ hp2
                have CC : ∀ o m : Nat, o + m = n ∨ m = 0 → ps.length ≤ o → o ≤ n → (m = 0 → n = ps.length + 1) → (m ≠ 0 → o = ps.length + 1) → Calls Tryz.prog 73 #[.slice (some ⟨g, o, none⟩) m m, .slice Ap (scaleq r1 X).length cp, .int .i64 (j : Int)] w9.drew (RetClr g us3 (pivT T (fun i => decide (ps.length < i)) ps.length (ps.length + f) j n) w9.drew) := fun o m h1 h2 h3 h4 h5 => by
                  have hc1 := gclear_any g o m m j n C 399 us3 _ (scaleq r1 X) T2 (fun i => decide (ps.length < i)) w9.drew TSd sp ⟨H2.out.1, hpl2.out, hj, by omega, Nat.le_refl _, by omega, hC, fun i hi => by simp; omega, fun i h6 h7 => by simp; omega, H2.out.2.2, HRP2.out, fun _ => by omega⟩
                  have e : clrM T2 (fun i => decide (ps.length < i)) (scaleq r1 X) j (o + m) = pivT T (fun i => decide (ps.length < i)) ps.length (ps.length + f) j n := by
                    rw [← HPV.out]
                    rcases h1 with h1 | h1
                    · rw [h1]
                    · subst h1
                      have h6 := h4 rfl
                      rw [clrM_none (o + 0) (fun i hi => by simp; omega), clrM_none n (fun i hi => by simp; omega)]
                  rwa [e] at hc1
                have RPd := RP9'.below bd
                have BPd := BP9'.below bd
                have sud := su9'.below bd
                have std := st9'.below bd
                have BRd := BR9'.below bd
                have HGd : Hid (w.grownBy w9.drew (some g)) := below_grown HG9'.out bd
                have h1m : (1 : Int) ≤ ((n - ps.length : Nat) : Int) := by omega
                clear TS9' RP9' BP9' su9' st9' BR9' HG9' hT2 eT2 hs2 hp2 hR2 hup
                by_cases hm2 : n - ps.length = 1
                · have HM2 := Lib.hid hm2
                  have hcc := CC ps.length 0 (.inr rfl) (Nat.le_refl _) (by omega) (fun _ => by omega) (fun e => absurd rfl e)
                  go_upto_region 15 with (fail)
                  go_region_law (go_simp; go_at_call 73; refine hcc.mono ?_; rintro e w10 ⟨rfl, us4, TS10, G10, ST10⟩)
                  all_goals
                    have RP10 := RPd.grown G10 (fun x e1 e2 => RPd.notTab TSd.1 (by decide) (by rw [e1, e2]))
                    have BP10 := Blk.grown BPd G10 (by omega)
                    have BR10 := Blk.grown BRd G10 (by omega)
                    have su10 := TSd.1.keep G10 sud
                    have st10 := TSd.1.keep G10 std
                    have HG10 : Hid (w.grownBy w10 (some g)) := HGd.out.trans G10
                    have HO10 : Hid (OffU us4 (fun x => x = w.heap.size ∨ x = w2.heap.size)) := ST10 _ (fun x hx => by
                      have h2 := BPd.lt
                      have h3 := BRd.lt
                      rcases hx with rfl | rfl
                      · exact h3
                      · exact h2) HO9.out
                    have ba := below_alloc (w := w10) (Nat.le_refl _) (.cells #[.int .i64 (j : Int)] 3)
                    have RP11 := RP10.below ba
                    have TS11 := TS10.below ba
                    have BP11 := BP10.below ba
                    have BR11 := BR10.below ba
                    have su11 := su10.below ba
                    have st11 := st10.below ba
                    have HG11 : Hid (w.grownBy _ (some g)) := below_grown HG10.out ba
                    have hbase : w.heap.size ≤ (w10.alloc (.cells #[.int .i64 (j : Int)] 3)).heap.size := Nat.le_trans HG10.out.size ba.size
                    have hone := cell_one_new w10 (.int .i64 (j : Int)) 3
                    have hlp : (pI ps).length + 1 ≤ 1000000000 := by rw [pI_len]; omega
                    clear TSd RPd BPd BRd sud std HGd G10 TS10 RP10 BP10 BR10 su10 st10 HG10 ba ST10 ecp sp CC
                    go_wp2_with (at_builtin; refine wpList_append_X rfl (.tmp 77) (.tmp 79) rfl Tryz.underlying26 info_int rfl RP11 rfl rfl (by decide) hone (fun u hu => by (obtain rfl := List.mem_singleton.1 hu; exact ⟨_, rfl⟩)) hlp hbase ?_; intro v12 w12 RP12 HG12 HX12)
                    have TS13 := TS11.keepX RP11 (RP11.notTab TS11.1 (by decide)) HG12.out
                    have BP13 := RP11.keepBlk BP11 (by decide) HG12.out
                    have BR13 := RP11.keepBlk BR11 (by decide) HG12.out
                    have su13 := RP11.keepS HG12.out su11
                    have st13 := RP11.keepS HG12.out st11
                    have HG13 : Hid (w.grownBy w12 (some g)) := grown_own HG11.out HG12.out (fun x e => RP11.1.base_le x e)
                    rw [HPS.out] at RP12
                    clear TS11 RP11 BP11 BR11 su11 st11 HG11 hone
                    go_wp2
                    go_roundw
                    case rel => exact ⟨j + 1, _, us4, ps ++ [j], Dn, _, _, by omega, HDN, TS13, RP12, BP13, su13, st13, BR13, HLL, HG13, fun _ => HO10.out, by go_num⟩
                    case measure => simp [intOf]; omega
                · have hcc := CC (ps.length + 1) (n - ps.length - 1) (.inl (by omega)) (by omega) (by omega) (fun e => by omega) (fun _ => rfl)
                  go_upto_region 15 with (fail)
                  go_region_law (go_simp; go_at_call 73; refine hcc.mono ?_; rintro e w10 ⟨rfl, us4, TS10, G10, ST10⟩)
                  all_goals
                    have RP10 := RPd.grown G10 (fun x e1 e2 => RPd.notTab TSd.1 (by decide) (by rw [e1, e2]))
                    have BP10 := Blk.grown BPd G10 (by omega)
                    have BR10 := Blk.grown BRd G10 (by omega)
                    have su10 := TSd.1.keep G10 sud
                    have st10 := TSd.1.keep G10 std
                    have HG10 : Hid (w.grownBy w10 (some g)) := HGd.out.trans G10
                    have HO10 : Hid (OffU us4 (fun x => x = w.heap.size ∨ x = w2.heap.size)) := ST10 _ (fun x hx => by
                      have h2 := BPd.lt
                      have h3 := BRd.lt
                      rcases hx with rfl | rfl
                      · exact h3
                      · exact h2) HO9.out
                    have ba := below_alloc (w := w10) (Nat.le_refl _) (.cells #[.int .i64 (j : Int)] 3)
                    have RP11 := RP10.below ba
                    have TS11 := TS10.below ba
                    have BP11 := BP10.below ba
                    have BR11 := BR10.below ba
                    have su11 := su10.below ba
                    have st11 := st10.below ba
                    have HG11 : Hid (w.grownBy _ (some g)) := below_grown HG10.out ba
                    have hbase : w.heap.size ≤ (w10.alloc (.cells #[.int .i64 (j : Int)] 3)).heap.size := Nat.le_trans HG10.out.size ba.size
                    have hone := cell_one_new w10 (.int .i64 (j : Int)) 3
                    have hlp : (pI ps).length + 1 ≤ 1000000000 := by rw [pI_len]; omega
                    clear TSd RPd BPd BRd sud std HGd G10 TS10 RP10 BP10 BR10 su10 st10 HG10 ba ST10 ecp sp CC
                    go_wp2_with (at_builtin; refine wpList_append_X rfl (.tmp 77) (.tmp 79) rfl Tryz.underlying26 info_int rfl RP11 rfl rfl (by decide) hone (fun u hu => by (obtain rfl := List.mem_singleton.1 hu; exact ⟨_, rfl⟩)) hlp hbase ?_; intro v12 w12 RP12 HG12 HX12)
                    have TS13 := TS11.keepX RP11 (RP11.notTab TS11.1 (by decide)) HG12.out
                    have BP13 := RP11.keepBlk BP11 (by decide) HG12.out
                    have BR13 := RP11.keepBlk BR11 (by decide) HG12.out
                    have su13 := RP11.keepS HG12.out su11
                    have st13 := RP11.keepS HG12.out st11
                    have HG13 : Hid (w.grownBy w12 (some g)) := grown_own HG11.out HG12.out (fun x e => RP11.1.base_le x e)
                    rw [HPS.out] at RP12
                    clear TS11 RP11 BP11 BR11 su11 st11 HG11 hone
                    go_wp2
                    go_roundw
                    case rel => exact ⟨j + 1, _, us4, ps ++ [j], Dn, _, _, by omega, HDN, TS13, RP12, BP13, su13, st13, BR13, HLL, HG13, fun _ => HO10.out, by go_num⟩
                    case measure => simp [intOf]; omega
        · obtain rfl : f = n - ps.length := by omega
          have HD5 : Hid (Dwn T0 T n C (j + 1) ps d S) := HD.out.skip fun i h1 h2 => by
            have h3 := hz (i - ps.length) (by omega)
            rw [hent _ (by omega), show ps.length + (i - ps.length) = i by omega] at h3
            exact h3
          clear hz hnz hent hLl
          go_wp2
          go_roundw
          case rel => exact ⟨j + 1, T, us', ps, d, _, _, by omega, HD5, TS4, RP4, BP4, su4, st4, BR4, HLD, HG4, HOF, by go_num⟩
          case measure => simp [intOf]; omega
      · have hn0 : n - ps.length = 0 := by omega
        have SL := TS.sub (o := 0) (m := 0) (c := 0) (by omega) (Nat.le_refl _) (by unfold maxLen; omega)
        go_wp2_with fail
        refine (gfirst_any _ _ j _ SL (fun r hr => by simp at hr)).mono ?_
        rintro e w4 ⟨f, rfl, hf, -, -, b4⟩
        obtain rfl : f = 0 := by simpa using hf
        have TS4 := TS.below b4
        have RP4 := RP.below b4
        have BP4 := BP.below b4
        have su4 := su.below b4
        have st4 := st.below b4
        have BR4 := BR.below b4
        have HG4 : Hid (w.grownBy w4 (some g)) := below_grown HG.out b4
        have HD5 : Hid (Dwn T0 T n C (j + 1) ps d S) := HD.out.skip fun i h1 h2 => by omega
        clear TS RP BP su st BR HG SL
        go_wp2
        go_roundw
        case rel => exact ⟨j + 1, T, us', ps, d, _, _, by omega, HD5, TS4, RP4, BP4, su4, st4, BR4, HLD, HG4, HOF, by go_num⟩
        case measure => simp [intOf]; omega
    · obtain rfl : j = pl := by omega
      obtain ⟨V0, V1, V2, _, _, _⟩ := three BP
      obtain ⟨R0, R1, R2, F0, F1, F2⟩ := three BR
      have G9 := grown_set3 wr w.heap.size (.bool (ngB d.num)) (.slice Au (digs 4294967296 d.num.natAbs).length cu) (.slice At (digs 4294967296 d.den).length ct)
      have B9 := blk_set3 BR (.bool (ngB d.num)) (.slice Au (digs 4294967296 d.num.natAbs).length cu) (.slice At (digs 4294967296 d.den).length ct)
      have TS9 := TS.offQ HD.out.sh BR (no3 _) (by decide) G9 (fun hC0 u hu e => HOF.out hC0 u hu _ e (.inl rfl))
      have RP9 := RP.grown G9 (fun x e1 e2 => RP.notBlk BR (by decide) x e1 e2)
      have s9 := Go.Proofs.YtmpalajamfiiiaaGreat.flow.off su BR (no3 _) G9
      have d9 := Go.Proofs.YtmpalajamfiiiaaGreat.flow.off st BR (no3 _) G9
      have HG9 : Hid (w.grownBy _ (some g)) := grown_new HG.out G9 (Nat.le_refl _)
      obtain ⟨w9, hw9⟩ : ∃ w9, w9 = (((wr.setCell ⟨w.heap.size, 0, none⟩ (.bool (ngB d.num))).setCell ⟨w.heap.size, 1, none⟩ (.slice Au (digs 4294967296 d.num.natAbs).length cu)).setCell ⟨w.heap.size, 2, none⟩ (.slice At (digs 4294967296 d.den).length ct)) := ⟨_, rfl⟩
      rw [← hw9] at B9 TS9 RP9 s9 d9 HG9
      have bd := (Below.refl w9.heap.size w9).drew
      have B10 := B9.below bd
      have HEND : Hid (RetDown T0 g n C j S w (.returned (.tuple #[u6, .agg #[.bool (ngB d.num), .slice Au (digs 4294967296 d.num.natAbs).length cu, .slice At (digs 4294967296 d.den).length ct]])) w9.drew) := ⟨_, _, T, us', ps, d, rfl, HD.out, TS9.below bd, RP9.below bd, ⟨_, _, rfl, s9.below bd, d9.below bd⟩, HLD.out, below_grown HG9.out bd⟩
      obtain ⟨C0, C1, C2, _, _, _⟩ := three B10
      clear TS9 RP9 s9 d9 HG9 B9 bd B10
      rw [hw9] at C0 C1 C2
      have HW := Lib.hid hw9
      clear hw9
      go_upto_region 18 with (fail)
      go_region
      all_goals
        go_wp2
        exact bodyPost_ret (v := .tuple #[u6, .agg #[.bool (ngB d.num), .slice Au (digs 4294967296 d.num.natAbs).length cu, .slice At (digs 4294967296 d.den).length ct]]) (by simp [results, Tryz.results34, go_sem, C0, C1, C2]) rfl (by have h := HEND.out; rw [HW.out] at h; exact h)
end Go.Proofs.YtmpalajamfiiiaaGreat.rat
