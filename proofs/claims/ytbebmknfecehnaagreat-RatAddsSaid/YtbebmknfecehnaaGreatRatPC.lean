/- Package rat: its own contracts, each said of fractions: Add, Sub, Cmp. Condition: as each says. -/
import Derived.Test.YtbebmknfecehnaaGreatRatP0
namespace Go.Proofs.YtbebmknfecehnaaGreat.rat
open Go.RowKit Go.Proofs.YtbebmknfecehnaaGreat.num Go.Proofs.YtbebmknfecehnaaGreat.mem Go.Proofs.YtbebmknfecehnaaGreat.nat Go.Proofs.YtbebmknfecehnaaGreat.txt Go.Proofs.YtbebmknfecehnaaGreat.str Go.Proofs.YtbebmknfecehnaaGreat.flow Go.Proofs.YtbebmknfecehnaaGreat.whl
set_option linter.unusedVariables false
set_option maxHeartbeats 3200000 in
set_option maxRecDepth 100000 in
theorem add8_any (a0 : Value) (x : Rat) (a1 : Value) (y : Rat) (w : World) (h0 : IsQ w a0 x) (h1 : IsQ w a1 y) (hl : lenQ x 1000) (hl2 : lenQ y 1000) :
    Calls Tryz.prog 9 #[a0, a1] w (RetQ (x + y) w) := by
  obtain ⟨u0, t0, rfl, s0, r0⟩ := h0
  obtain ⟨A0, c0, rfl, _⟩ := id s0
  obtain ⟨D0, e0, rfl, _⟩ := id r0
  obtain ⟨u1, t1, rfl, s1, r1⟩ := h1
  obtain ⟨A1, c1, rfl, _⟩ := id s1
  obtain ⟨D1, e1, rfl, _⟩ := id r1
  obtain ⟨G, hG⟩ : ∃ G, G = Nat.gcd x.den y.den := ⟨_, rfl⟩
  obtain ⟨m1, ha⟩ : ∃ m1, m1 = x.den / G := ⟨_, rfl⟩
  obtain ⟨m2, hb_⟩ : ∃ m2, m2 = y.den / G := ⟨_, rfl⟩
  have hGp : 0 < G := by rw [hG]; exact Nat.gcd_pos_of_pos_left _ x.den_pos
  have hGd : G ≤ x.den := by rw [hG]; exact Nat.gcd_le_left _ x.den_pos
  obtain ⟨S, hS⟩ : ∃ S, S = (x.num * ((m2 : Nat) : Int) + y.num * ((m1 : Nat) : Int)) := ⟨_, rfl⟩
  obtain ⟨U, hU⟩ : ∃ U, U = (mkRat S G).num := ⟨_, rfl⟩
  obtain ⟨L, hL⟩ : ∃ L, L = (mkRat S G).den := ⟨_, rfl⟩
  obtain ⟨Q, hQ⟩ : ∃ Q, Q = x + y := ⟨_, rfl⟩
  have HQ0 : Hid (x + y = Q) := hQ.symm
  have HP := add_parts x y hG ha hb_
  rw [← hS, ← hU, ← hL, ← hQ] at HP
  have HQN := Lib.hid HP.1
  have HQD := Lib.hid HP.2
  have lx1 := hl.1
  have lx2 := hl.2
  have ly1 := hl2.1
  have ly2 := hl2.2
  have la : (digs 4294967296 m1).length ≤ 1000 := Nat.le_trans (digs_len_mono (by omega) (by rw [ha]; exact Nat.div_le_self _ _)) lx2
  have lb : (digs 4294967296 m2).length ≤ 1000 := Nat.le_trans (digs_len_mono (by omega) (by rw [hb_]; exact Nat.div_le_self _ _)) ly2
  have lG : (digs 4294967296 G).length ≤ 1000 := Nat.le_trans (digs_len_mono (by omega) hGd) lx2
  have lza : lenZ ((m1 : Nat) : Int) ≤ 1000 := by rw [lenD]; exact la
  have lzb : lenZ ((m2 : Nat) : Int) ≤ 1000 := by rw [lenD]; exact lb
  have lp : lenZ (x.num * ((m2 : Nat) : Int)) ≤ 2000 := lenZ_mul_le lx1 lzb
  have lq : lenZ (y.num * ((m1 : Nat) : Int)) ≤ 2000 := lenZ_mul_le ly1 lza
  have lS : lenZ S ≤ 4001 := by rw [hS]; exact lenZ_add_le lp lq
  have HL1 : Hid ((digs 4294967296 x.den).length ≤ 90000) := Nat.le_trans lx2 (by decide)
  have HL2 : Hid ((digs 4294967296 y.den).length ≤ 90000) := Nat.le_trans ly2 (by decide)
  have lL : (digs 4294967296 L).length ≤ 1000 := Nat.le_trans (digs_len_mono (by omega) (by rw [hL, mk_den S (by omega)]; exact Nat.div_le_self _ _)) lG
  have lab : (digs 4294967296 (m1 * m2)).length ≤ 2000 := by have := mul_len m1 m2; omega
  have HG : Hid (gcds [x.den, y.den] = G) := by show _ = _; rw [hG]; simp [gcds]
  have HM1 : Hid (x.den % G = 0) := by show _ = _; rw [hG]; exact Nat.mod_eq_zero_of_dvd (Nat.gcd_dvd_left _ _)
  have HM2 : Hid (y.den % G = 0) := by show _ = _; rw [hG]; exact Nat.mod_eq_zero_of_dvd (Nat.gcd_dvd_right _ _)
  have HA := Lib.hid ha
  have HB := Lib.hid hb_
  have HS : Hid ((x.num * ((m2 : Nat) : Int) + y.num * ((m1 : Nat) : Int)) = S) := hS.symm
  have HU := Lib.hid hU
  have HL := Lib.hid hL
  have HGn : Hid (G ≠ 0) := by show _ ≠ _; omega
  clear hG ha hb_ hS hU hL hQ HP
  go_enter Tryz.func9, Tryz.ntmps9
  go_upto_region 1 with (fail)
  obtain ⟨wx, hwx, bb, B0, B1, BR0, hsz⟩ := vars3 w 27 27 27 #[.bool (ngB (x).num), .slice A0 (digs 4294967296 (x).num.natAbs).length c0, .slice D0 (digs 4294967296 (x).den).length e0] #[.bool (ngB (y).num), .slice A1 (digs 4294967296 (y).num.natAbs).length c1, .slice D1 (digs 4294967296 (y).den).length e1] #[.bool false, .slice none 0 0, .slice none 0 0]
  rw [hwx]
  clear hwx
  have k0s := s0.below bb
  have k0d := r0.below bb
  have k0z : IsZ wx (.agg #[.bool (ngB (x).num), .slice A0 (digs 4294967296 (x).num.natAbs).length c0]) (x).num := ⟨_, rfl, k0s⟩
  have k0 : IsQ wx (.agg #[.bool (ngB (x).num), .slice A0 (digs 4294967296 (x).num.natAbs).length c0, .slice D0 (digs 4294967296 (x).den).length e0]) (x) := ⟨_, _, rfl, k0s, k0d⟩
  have k1s := s1.below bb
  have k1d := r1.below bb
  have k1z : IsZ wx (.agg #[.bool (ngB (y).num), .slice A1 (digs 4294967296 (y).num.natAbs).length c1]) (y).num := ⟨_, rfl, k1s⟩
  have k1 : IsQ wx (.agg #[.bool (ngB (y).num), .slice A1 (digs 4294967296 (y).num.natAbs).length c1, .slice D1 (digs 4294967296 (y).den).length e1]) (y) := ⟨_, _, rfl, k1s, k1d⟩
  have hsz0 := bb.size
  obtain ⟨x00, x01, x02, _, _, _⟩ := three B0
  obtain ⟨x10, x11, x12, _, _, _⟩ := three B1
  go_wp2_with fail
  have hbA := below_alloc (Nat.le_refl wx.heap.size) (.cells #[.slice D0 (digs 4294967296 (x).den).length e0, .slice D1 (digs 4294967296 (y).den).length e1] 23)
  refine (ggcd_any _ [_, _] [x.den, y.den] _ (isV_lit wx 23 [_, _]) (nums2 (k0d.below hbA) (k1d.below hbA)) (by simp) (by intro q hq; simp at hq; rcases hq with rfl | rfl; exact HL1.out; exact HL2.out)).mono ?_
  rintro e w1 ⟨v1, rfl, kg, kgf, b1⟩
  have hb1 := hbA.trans (b1.mono hbA.size)
  rw [HG.out] at kg
  clear x00 x01 x02 x10 x11 x12
  replace B0 := B0.below hb1
  replace k0s := k0s.below hb1
  replace k0d := k0d.below hb1
  replace k0z := k0z.below hb1
  replace k0 := k0.below hb1
  replace B1 := B1.below hb1
  replace k1s := k1s.below hb1
  replace k1d := k1d.below hb1
  replace k1z := k1z.below hb1
  replace k1 := k1.below hb1
  replace BR0 := BR0.below hb1
  replace bb := bb.trans (hb1.mono bb.size)
  have hsz1 := bb.size
  obtain ⟨Akg, ckg, rfl, _⟩ := id kg
  have sB := bb.size
  go_upto_region 2 with (fail)
  refine flowp 9 [Pd.eq (.pointer (some ⟨w.heap.size, 2, none⟩)), Pd.eq (.slice D0 (digs 4294967296 (x).den).length e0), Pd.eq (.slice Akg (digs 4294967296 G).length ckg), pt .u64 (digs 4294967296 m1) 0 w1.heap.size, pt .u64 (digs 4294967296 m1) 0 w1.heap.size, ps .u64 (digs 4294967296 m1) w1.heap.size, Pd.eq (.int .i64 0), ps .u64 (digs 4294967296 m1) w1.heap.size, Pd.eq (.int .i64 0)] (by kernel_rfl) ?ob37 ?done37
  case ob37 =>
    refine And.intro (ob_fieldAddr rfl (wt_none rfl) (ev_far rfl rfl) (fun _ => by kernel_rfl) (fun _ => rfl)) ?_
    refine And.intro (ob_load rfl (wt_none rfl) (ev_dep (j := 0) (by kernel_rfl) rfl rfl) (fun w2 hb => run_load1 Tryz.underlying23 rfl ((B0.below hb).cell 2)) (fun _ _ => rfl)) ?_
    refine And.intro (ob_move rfl (wt_none rfl) (ev_far rfl rfl) (fun _ _ h => h)) ?_
    refine And.intro (ob_call2 rfl Tryz.func38 (by kernel_rfl) (wt_none rfl) (ev_dep (j := 1) (by kernel_rfl) rfl rfl) (ev_dep (j := 2) (by kernel_rfl) rfl rfl) (fun w2 u0 u1 hb h0 h1 => by obtain rfl := h0; obtain rfl := h1; exact (dexact_ok _ _ x.den G _ (k0d.below hb) (kg.below hb) HL1.out (Nat.le_trans lG (by decide)) hGp m1 HM1.out HA.out).mono fun e w3 h => RetSI.pd h hb.size)) ?_
    refine And.intro (ob_move rfl (wt_none rfl) (ev_dep (j := 3) (by kernel_rfl) rfl rfl) (fun _ _ h => h)) ?_
    refine And.intro (ob_extract rfl (wt_none rfl) (ev_dep (j := 4) (by kernel_rfl) rfl rfl) (fun w2 u hu => by obtain ⟨v, rfl, q1, q2⟩ := hu; exact ⟨v, rfl, q1, q2⟩)) ?_
    refine And.intro (ob_extract rfl (wt_none rfl) (ev_dep (j := 4) (by kernel_rfl) rfl rfl) (fun w2 u hu => by obtain ⟨v, rfl, q1, q2⟩ := hu; exact ⟨_, rfl, rfl⟩)) ?_
    refine And.intro (ob_assign rfl (wt_none rfl) (ev_dep (j := 5) (by kernel_rfl) rfl rfl) (fun _ _ h => h)) ?_
    refine And.intro (ob_assign rfl (wt_none rfl) (ev_dep (j := 6) (by kernel_rfl) rfl rfl) (fun _ _ h => h)) ?_
    trivial
  case done37 =>
    refine fun w2 hb2 v0 h0 v1 h1 v2 h2 v3 h3 v4 h4 v5 h5 v6 h6 v7 h7 v8 h8 b hbf => ?_
    obtain rfl := h0; obtain rfl := h1; obtain rfl := h2; obtain rfl := h6; obtain rfl := h8
    clear h3
    clear h4
    obtain ⟨q5, f5⟩ := h5
    obtain ⟨q7, f7⟩ := h7
    simp only [Act.put, List.setIfInBounds_toArray, List.set_cons_zero, List.set_cons_succ] at hbf
    subst hbf
    replace B0 := B0.below hb2
    replace k0s := k0s.below hb2
    replace k0d := k0d.below hb2
    replace k0z := k0z.below hb2
    replace k0 := k0.below hb2
    replace B1 := B1.below hb2
    replace k1s := k1s.below hb2
    replace k1d := k1d.below hb2
    replace k1z := k1z.below hb2
    replace k1 := k1.below hb2
    replace BR0 := BR0.below hb2
    replace kg := kg.below hb2
    replace bb := bb.trans (hb2.mono bb.size)
    have hsz2 := bb.size
    have s_5 := sB
    have s_7 := sB
    refine ops_done ?_
    obtain ⟨A6, c6, rfl, _⟩ := id q7
    have n6 := q7
    have n6f := f7
    have n6z_ := s_7
    have sB := bb.size
    go_upto_region 3 with (fail)
    refine flowp 9 [Pd.eq (.pointer (some ⟨w.heap.size + 1, 2, none⟩)), Pd.eq (.slice D1 (digs 4294967296 (y).den).length e1), Pd.eq (.slice Akg (digs 4294967296 G).length ckg), pt .u64 (digs 4294967296 m2) 0 w2.heap.size, pt .u64 (digs 4294967296 m2) 0 w2.heap.size, ps .u64 (digs 4294967296 m2) w2.heap.size, Pd.eq (.int .i64 0), ps .u64 (digs 4294967296 m2) w2.heap.size, Pd.eq (.int .i64 0)] (by kernel_rfl) ?ob38 ?done38
    case ob38 =>
      refine And.intro (ob_fieldAddr rfl (wt_none rfl) (ev_far rfl rfl) (fun _ => by kernel_rfl) (fun _ => rfl)) ?_
      refine And.intro (ob_load rfl (wt_none rfl) (ev_dep (j := 0) (by kernel_rfl) rfl rfl) (fun w2 hb => run_load1 Tryz.underlying23 rfl ((B1.below hb).cell 2)) (fun _ _ => rfl)) ?_
      refine And.intro (ob_move rfl (wt_none rfl) (ev_far rfl rfl) (fun _ _ h => h)) ?_
      refine And.intro (ob_call2 rfl Tryz.func38 (by kernel_rfl) (wt_none rfl) (ev_dep (j := 1) (by kernel_rfl) rfl rfl) (ev_dep (j := 2) (by kernel_rfl) rfl rfl) (fun w2 u0 u1 hb h0 h1 => by obtain rfl := h0; obtain rfl := h1; exact (dexact_ok _ _ y.den G _ (k1d.below hb) (kg.below hb) HL2.out (Nat.le_trans lG (by decide)) hGp m2 HM2.out HB.out).mono fun e w3 h => RetSI.pd h hb.size)) ?_
      refine And.intro (ob_move rfl (wt_none rfl) (ev_dep (j := 3) (by kernel_rfl) rfl rfl) (fun _ _ h => h)) ?_
      refine And.intro (ob_extract rfl (wt_none rfl) (ev_dep (j := 4) (by kernel_rfl) rfl rfl) (fun w2 u hu => by obtain ⟨v, rfl, q1, q2⟩ := hu; exact ⟨v, rfl, q1, q2⟩)) ?_
      refine And.intro (ob_extract rfl (wt_none rfl) (ev_dep (j := 4) (by kernel_rfl) rfl rfl) (fun w2 u hu => by obtain ⟨v, rfl, q1, q2⟩ := hu; exact ⟨_, rfl, rfl⟩)) ?_
      refine And.intro (ob_assign rfl (wt_none rfl) (ev_dep (j := 5) (by kernel_rfl) rfl rfl) (fun _ _ h => h)) ?_
      refine And.intro (ob_assign rfl (wt_none rfl) (ev_dep (j := 6) (by kernel_rfl) rfl rfl) (fun _ _ h => h)) ?_
      trivial
    case done38 =>
      refine fun w3 hb3 v0 h0 v1 h1 v2 h2 v3 h3 v4 h4 v5 h5 v6 h6 v7 h7 v8 h8 b hbf => ?_
      obtain rfl := h0; obtain rfl := h1; obtain rfl := h2; obtain rfl := h6; obtain rfl := h8
      clear h3
      clear h4
      obtain ⟨q5, f5⟩ := h5
      obtain ⟨q7, f7⟩ := h7
      simp only [Act.put, List.setIfInBounds_toArray, List.set_cons_zero, List.set_cons_succ] at hbf
      subst hbf
      replace B0 := B0.below hb3
      replace k0s := k0s.below hb3
      replace k0d := k0d.below hb3
      replace k0z := k0z.below hb3
      replace k0 := k0.below hb3
      replace B1 := B1.below hb3
      replace k1s := k1s.below hb3
      replace k1d := k1d.below hb3
      replace k1z := k1z.below hb3
      replace k1 := k1.below hb3
      replace BR0 := BR0.below hb3
      replace kg := kg.below hb3
      replace n6 := n6.below hb3
      replace bb := bb.trans (hb3.mono bb.size)
      have hsz3 := bb.size
      have s_5 := sB
      have s_7 := sB
      refine ops_done ?_
      obtain ⟨A8, c8, rfl, _⟩ := id q7
      have n8 := q7
      have n8f := f7
      have n8z_ := s_7
      have sB := bb.size
      go_upto_region 4 with (fail)
      have lt3_2 := Blk.lt B0
      have lt3_3 := Blk.lt B1
      have lt3_4 := Blk.lt BR0
      refine flow 12 [Pd.eq (.pointer (some ⟨w.heap.size, 0, none⟩)), Pd.eq (.agg #[.bool (ngB (x).num), .slice A0 (digs 4294967296 (x).num.natAbs).length c0]), Pd.eq (.slice A8 (digs 4294967296 m2).length c8), pi (((m2 : Nat) : Int)), pi ((x.num * ((m2 : Nat) : Int))), Pd.eq (.pointer (some ⟨w.heap.size + 1, 0, none⟩)), Pd.eq (.agg #[.bool (ngB (y).num), .slice A1 (digs 4294967296 (y).num.natAbs).length c1]), Pd.eq (.slice A6 (digs 4294967296 m1).length c6), pi (((m1 : Nat) : Int)), pi ((y.num * ((m1 : Nat) : Int))), pz (S) w3.heap.size, pn 25 #[.bool false, .slice none 0 0] w3.heap.size] (by kernel_rfl) (by kernel_rfl) ?ob39 ?done39
      case ob39 =>
        refine And.intro (ob_fieldAddr rfl (wt_none rfl) (ev_far rfl rfl) (fun _ => by kernel_rfl) (fun _ => rfl)) ?_
        refine And.intro (ob_load rfl (wt_none rfl) (ev_dep (j := 0) (by kernel_rfl) rfl rfl) (fun w2 hb => run_loadPart Tryz.underlying25 rfl (by kernel_rfl) (B0.drew.below hb) rfl) (fun _ _ => rfl)) ?_
        refine And.intro (ob_move rfl (wt_none rfl) (ev_far rfl rfl) (fun _ _ h => h)) ?_
        refine And.intro (ob_call1 rfl Tryz.func41 (by kernel_rfl) (wt_none rfl) (ev_dep (j := 2) (by kernel_rfl) rfl rfl) (fun w2 u0 hb h0 => by obtain rfl := h0; exact unsigned_pd _ (m2) _ (n8.drew.below hb))) ?_
        refine And.intro (ob_call2 rfl Tryz.func40 (by kernel_rfl) (wt_none rfl) (ev_dep (j := 1) (by kernel_rfl) rfl rfl) (ev_dep (j := 3) (by kernel_rfl) rfl rfl) (fun w2 u0 u1 hb h0 h1 => by obtain rfl := h0; exact (zmul_any _ _ _ _ (x.num * ((m2 : Nat) : Int)) _ (k0z.drew.below hb) h1 (Nat.le_trans lx1 (by decide)) (Nat.le_trans lzb (by decide)) rfl).mono fun e w3 h => RetZ.pi h)) ?_
        refine And.intro (ob_fieldAddr rfl (wt_none rfl) (ev_far rfl rfl) (fun _ => by kernel_rfl) (fun _ => rfl)) ?_
        refine And.intro (ob_load rfl (wt_none rfl) (ev_dep (j := 5) (by kernel_rfl) rfl rfl) (fun w2 hb => run_loadPart Tryz.underlying25 rfl (by kernel_rfl) (B1.drew.below hb) rfl) (fun _ _ => rfl)) ?_
        refine And.intro (ob_move rfl (wt_none rfl) (ev_far rfl rfl) (fun _ _ h => h)) ?_
        refine And.intro (ob_call1 rfl Tryz.func41 (by kernel_rfl) (wt_none rfl) (ev_dep (j := 7) (by kernel_rfl) rfl rfl) (fun w2 u0 hb h0 => by obtain rfl := h0; exact unsigned_pd _ (m1) _ (n6.drew.below hb))) ?_
        refine And.intro (ob_call2 rfl Tryz.func40 (by kernel_rfl) (wt_none rfl) (ev_dep (j := 6) (by kernel_rfl) rfl rfl) (ev_dep (j := 8) (by kernel_rfl) rfl rfl) (fun w2 u0 u1 hb h0 h1 => by obtain rfl := h0; exact (zmul_any _ _ _ _ (y.num * ((m1 : Nat) : Int)) _ (k1z.drew.below hb) h1 (Nat.le_trans ly1 (by decide)) (Nat.le_trans lza (by decide)) rfl).mono fun e w3 h => RetZ.pi h)) ?_
        refine And.intro (ob_call2 rfl Tryz.func39 (by kernel_rfl) (wt_none rfl) (ev_dep (j := 4) (by kernel_rfl) rfl rfl) (ev_dep (j := 9) (by kernel_rfl) rfl rfl) (fun w2 u0 u1 hb h0 h1 => by exact (HS.out ▸ zadd_any _ _ _ _ _ h0 h1 (Nat.le_trans lp (by decide)) (Nat.le_trans lq (by decide))).mono fun e w3 h => RetZ.pd h hb.size)) ?_
        refine And.intro (ob_alloc (z := .agg #[.bool false, .slice none 0 0]) rfl rfl (fun _ => by kernel_rfl) (fun _ _ hB h => ⟨_, rfl, hB, h⟩)) ?_
        trivial
      case done39 =>
        refine fun w4 hb4 v0 h0 v1 h1 v2 h2 v3 h3 v4 h4 v5 h5 v6 h6 v7 h7 v8 h8 v9 h9 v10 h10 v11 h11 d11 b hbf => ?_
        obtain rfl := h0; obtain rfl := h1; obtain rfl := h2; obtain rfl := h5; obtain rfl := h6; obtain rfl := h7
        have q3 := h3
        have q4 := h4
        have q8 := h8
        have q9 := h9
        obtain ⟨q10, f10⟩ := h10
        obtain ⟨g39_11, rfl, hg11, B11⟩ := h11
        simp only [Act.put, List.setIfInBounds_toArray, List.set_cons_zero, List.set_cons_succ] at hbf
        subst hbf
        replace B0 := B0.below hb4
        replace k0s := k0s.below hb4
        replace k0d := k0d.below hb4
        replace k0z := k0z.below hb4
        replace k0 := k0.below hb4
        replace B1 := B1.below hb4
        replace k1s := k1s.below hb4
        replace k1d := k1d.below hb4
        replace k1z := k1z.below hb4
        replace k1 := k1.below hb4
        replace BR0 := BR0.below hb4
        replace kg := kg.below hb4
        replace n6 := n6.below hb4
        replace n8 := n8.below hb4
        replace bb := bb.trans (hb4.mono bb.size)
        have hsz4 := bb.size
        have s_10 := sB
        have BA10 := B11
        obtain ⟨u10, rfl, q10⟩ := q10
        obtain ⟨A10, c10, rfl, _⟩ := id q10
        refine any_store (i := 12) (by kernel_rfl) rfl rfl rfl rfl rfl rfl (cells := [.bool (ngB S), .slice A10 (digs 4294967296 (S).natAbs).length c10]) rfl BA10 rfl (by kernel_rfl) (one2 rfl rfl) fun w5 hg5 BN5 => ?_
        replace q10 := off q10 BA10 no_ints2 hg5
        replace kg := off kg BA10 no_ints2 hg5
        replace n6 := off n6 BA10 no_ints2 hg5
        replace n8 := off n8 BA10 no_ints2 hg5
        replace k0s := off k0s BA10 no_ints2 hg5
        replace k0d := off k0d BA10 no_ints2 hg5
        replace k0z : IsZ w5 (.agg #[.bool (ngB (x).num), .slice A0 (digs 4294967296 (x).num.natAbs).length c0]) ((x).num) := ⟨_, rfl, k0s⟩
        replace k0 : IsQ w5 (.agg #[.bool (ngB (x).num), .slice A0 (digs 4294967296 (x).num.natAbs).length c0, .slice D0 (digs 4294967296 (x).den).length e0]) (x) := ⟨_, _, rfl, k0s, k0d⟩
        replace B0 := B0.grown hg5 (by omega)
        replace k1s := off k1s BA10 no_ints2 hg5
        replace k1d := off k1d BA10 no_ints2 hg5
        replace k1z : IsZ w5 (.agg #[.bool (ngB (y).num), .slice A1 (digs 4294967296 (y).num.natAbs).length c1]) ((y).num) := ⟨_, rfl, k1s⟩
        replace k1 : IsQ w5 (.agg #[.bool (ngB (y).num), .slice A1 (digs 4294967296 (y).num.natAbs).length c1, .slice D1 (digs 4294967296 (y).den).length e1]) (y) := ⟨_, _, rfl, k1s, k1d⟩
        replace B1 := B1.grown hg5 (by omega)
        replace BR0 := BR0.grown hg5 (by omega)
        replace bb := bb.trans ((Below.refl _ _).grown hg5 bb.size (fun g hg => by injection hg with hg; omega))
        have hsz5 := bb.size
        have B10 : Blk w5 (g39_11) _ _ := BN5
        have k10s := q10
        have k10 : IsZ w5 (.agg #[.bool (ngB S), .slice A10 (digs 4294967296 (S).natAbs).length c10]) (S) := ⟨_, rfl, k10s⟩
        refine any_done (by kernel_rfl) ?_
        have sB := bb.size
        go_upto_region 5 with (fail)
        have lt5_2 := Blk.lt B0
        have lt5_3 := Blk.lt B1
        have lt5_4 := Blk.lt BR0
        have lt5_10 := Blk.lt B10
        refine flowp 7 [Pd.eq (.agg #[.bool (ngB S), .slice A10 (digs 4294967296 (S).natAbs).length c10]), Pd.eq (.slice Akg (digs 4294967296 G).length ckg), pzs (U) (L) w5.heap.size, pzs (U) (L) w5.heap.size, pz (U) w5.heap.size, ps .u64 (digs 4294967296 L) w5.heap.size, pn 25 #[.bool false, .slice none 0 0] w5.heap.size] (by kernel_rfl) ?ob40 ?done40
        case ob40 =>
          refine And.intro (ob_load rfl (wt_none rfl) (ev_far rfl rfl) (fun w2 hb => run_loadAll Tryz.underlying25 rfl (by kernel_rfl) (B10.below hb)) (fun _ _ => rfl)) ?_
          refine And.intro (ob_move rfl (wt_none rfl) (ev_far rfl rfl) (fun _ _ h => h)) ?_
          refine And.intro (ob_call2 rfl Tryz.func42 (by kernel_rfl) (wt_none rfl) (ev_dep (j := 0) (by kernel_rfl) rfl rfl) (ev_dep (j := 1) (by kernel_rfl) rfl rfl) (fun w2 u0 u1 hb h0 h1 => by obtain rfl := h0; obtain rfl := h1; exact (reduced_any _ S _ G U L _ (k10.below hb) (kg.below hb) HGn.out (Nat.le_trans lS (by decide)) (Nat.le_trans lG (by decide)) HU.out HL.out).mono fun e w3 h => RetZS.pd h hb.size)) ?_
          refine And.intro (ob_move rfl (wt_none rfl) (ev_dep (j := 2) (by kernel_rfl) rfl rfl) (fun _ _ h => h)) ?_
          refine And.intro (ob_extract rfl (wt_none rfl) (ev_dep (j := 3) (by kernel_rfl) rfl rfl) (fun w2 u hu => by obtain ⟨v, u, rfl, q1, q2, q3, q4⟩ := hu; exact ⟨v, rfl, q1, q3⟩)) ?_
          refine And.intro (ob_extract rfl (wt_none rfl) (ev_dep (j := 3) (by kernel_rfl) rfl rfl) (fun w2 u hu => by obtain ⟨v, u, rfl, q1, q2, q3, q4⟩ := hu; exact ⟨u, rfl, q2, q4⟩)) ?_
          refine And.intro (ob_alloc (z := .agg #[.bool false, .slice none 0 0]) rfl rfl (fun _ => by kernel_rfl) (fun _ _ hB h => ⟨_, rfl, hB, h⟩)) ?_
          trivial
        case done40 =>
          refine fun w6 hb6 v0 h0 v1 h1 v2 h2 v3 h3 v4 h4 v5 h5 v6 h6 d6 b hbf => ?_
          obtain rfl := h0; obtain rfl := h1
          clear h2
          clear h3
          obtain ⟨q4, f4⟩ := h4
          obtain ⟨q5, f5⟩ := h5
          obtain ⟨g40_6, rfl, hg6, B6⟩ := h6
          simp only [Act.put, List.setIfInBounds_toArray, List.set_cons_zero, List.set_cons_succ] at hbf
          subst hbf
          replace B0 := B0.below hb6
          replace k0s := k0s.below hb6
          replace k0d := k0d.below hb6
          replace k0z := k0z.below hb6
          replace k0 := k0.below hb6
          replace B1 := B1.below hb6
          replace k1s := k1s.below hb6
          replace k1d := k1d.below hb6
          replace k1z := k1z.below hb6
          replace k1 := k1.below hb6
          replace BR0 := BR0.below hb6
          replace B10 := B10.below hb6
          replace k10s := k10s.below hb6
          replace k10 := k10.below hb6
          replace kg := kg.below hb6
          replace n6 := n6.below hb6
          replace n8 := n8.below hb6
          replace bb := bb.trans (hb6.mono bb.size)
          have hsz6 := bb.size
          have s_4 := sB
          have s_5 := sB
          obtain ⟨A49, c49, rfl, _⟩ := id q5
          have n49 := q5
          have n49f := f5
          have n49z_ := s_5
          have BA11 := B6
          obtain ⟨u4, rfl, q4⟩ := q4
          obtain ⟨A11, c11, rfl, _⟩ := id q4
          refine ops_store (i := 7) rfl rfl rfl rfl rfl rfl (cells := [.bool (ngB U), .slice A11 (digs 4294967296 (U).natAbs).length c11]) rfl BA11 rfl (by kernel_rfl) (one2 rfl rfl) fun w7 hg7 BN7 => ?_
          replace q4 := off q4 BA11 no_ints2 hg7
          replace kg := off kg BA11 no_ints2 hg7
          replace n6 := off n6 BA11 no_ints2 hg7
          replace n8 := off n8 BA11 no_ints2 hg7
          replace n49 := off n49 BA11 no_ints2 hg7
          replace k0s := off k0s BA11 no_ints2 hg7
          replace k0d := off k0d BA11 no_ints2 hg7
          replace k0z : IsZ w7 (.agg #[.bool (ngB (x).num), .slice A0 (digs 4294967296 (x).num.natAbs).length c0]) ((x).num) := ⟨_, rfl, k0s⟩
          replace k0 : IsQ w7 (.agg #[.bool (ngB (x).num), .slice A0 (digs 4294967296 (x).num.natAbs).length c0, .slice D0 (digs 4294967296 (x).den).length e0]) (x) := ⟨_, _, rfl, k0s, k0d⟩
          replace B0 := B0.grown hg7 (by omega)
          replace k1s := off k1s BA11 no_ints2 hg7
          replace k1d := off k1d BA11 no_ints2 hg7
          replace k1z : IsZ w7 (.agg #[.bool (ngB (y).num), .slice A1 (digs 4294967296 (y).num.natAbs).length c1]) ((y).num) := ⟨_, rfl, k1s⟩
          replace k1 : IsQ w7 (.agg #[.bool (ngB (y).num), .slice A1 (digs 4294967296 (y).num.natAbs).length c1, .slice D1 (digs 4294967296 (y).den).length e1]) (y) := ⟨_, _, rfl, k1s, k1d⟩
          replace B1 := B1.grown hg7 (by omega)
          replace BR0 := BR0.grown hg7 (by omega)
          replace k10s := off k10s BA11 no_ints2 hg7
          replace k10 : IsZ w7 (.agg #[.bool (ngB S), .slice A10 (digs 4294967296 (S).natAbs).length c10]) (S) := ⟨_, rfl, k10s⟩
          replace B10 := B10.grown hg7 (by omega)
          replace bb := bb.trans ((Below.refl _ _).grown hg7 bb.size (fun g hg => by injection hg with hg; omega))
          have hsz7 := bb.size
          have B11 : Blk w7 (g40_6) _ _ := BN7
          have k11s := q4
          have k11 : IsZ w7 (.agg #[.bool (ngB U), .slice A11 (digs 4294967296 (U).natAbs).length c11]) (U) := ⟨_, rfl, k11s⟩
          refine ops_assign (i := 8) (.slice A49 (digs 4294967296 L).length c49) rfl rfl rfl rfl rfl fun b hbf => ?_
          simp only [Act.put, List.setIfInBounds_toArray, List.set_cons_zero, List.set_cons_succ] at hbf
          subst hbf
          refine ops_done ?_
          have f11_ := (f4 _ _ rfl).mono s_4
          have sB := bb.size
          go_upto_region 6 with (fail)
          refine flow 7 [Pd.eq (.agg #[.bool (ngB U), .slice A11 (digs 4294967296 (U).natAbs).length c11]), Pd.eq (.slice A6 (digs 4294967296 m1).length c6), Pd.eq (.slice A8 (digs 4294967296 m2).length c8), ps .u64 (digs 4294967296 (m1 * m2)) w7.heap.size, Pd.eq (.slice A49 (digs 4294967296 L).length c49), ps .u64 (digs 4294967296 ((m1 * m2) * L)) w7.heap.size, pbq (ngB U) (.slice A11 (digs 4294967296 (U).natAbs).length c11) (digs 4294967296 ((m1 * m2) * L)) w7.heap.size] (by kernel_rfl) (by kernel_rfl) ?ob41 ?done41
          case ob41 =>
            refine And.intro (ob_load rfl (wt_none rfl) (ev_far rfl rfl) (fun w2 hb => run_loadAll Tryz.underlying25 rfl (by kernel_rfl) (B11.drew.below hb)) (fun _ _ => rfl)) ?_
            refine And.intro (ob_move rfl (wt_none rfl) (ev_far rfl rfl) (fun _ _ h => h)) ?_
            refine And.intro (ob_move rfl (wt_none rfl) (ev_far rfl rfl) (fun _ _ h => h)) ?_
            refine And.intro (ob_call2 rfl Tryz.func43 (by kernel_rfl) (wt_none rfl) (ev_dep (j := 1) (by kernel_rfl) rfl rfl) (ev_dep (j := 2) (by kernel_rfl) rfl rfl) (fun w2 u0 u1 hb h0 h1 => by obtain rfl := h0; obtain rfl := h1; exact (times_any _ m1 _ m2 _ (n6.drew.below hb) (n8.drew.below hb) (Nat.le_trans la (by decide)) (Nat.le_trans lb (by decide))).mono fun e w3 h => RetS.pd h hb.size)) ?_
            refine And.intro (ob_move rfl (wt_none rfl) (ev_far rfl rfl) (fun _ _ h => h)) ?_
            refine And.intro (ob_call2 rfl Tryz.func43 (by kernel_rfl) (wt_none rfl) (ev_dep (j := 3) (by kernel_rfl) rfl rfl) (ev_dep (j := 4) (by kernel_rfl) rfl rfl) (fun w2 u0 u1 hb h0 h1 => by obtain rfl := h1; exact (times_any _ (m1 * m2) _ L _ h0.1 (n49.drew.below hb) (Nat.le_trans lab (by decide)) (Nat.le_trans lL (by decide))).mono fun e w3 h => RetS.pd h hb.size)) ?_
            refine And.intro (ob_build2b rfl (wt_none rfl) (ev_dep (j := 0) (by kernel_rfl) rfl rfl) (ev_dep (j := 5) (by kernel_rfl) rfl rfl) (fun w2 u v hb hu hv => by obtain rfl := hu; obtain ⟨A7, c7, rfl, _⟩ := id hv.1; exact ⟨.agg #[.bool (ngB U), .slice A11 (digs 4294967296 (U).natAbs).length c11, .slice A7 (digs 4294967296 ((m1 * m2) * L)).length c7], by kernel_rfl, ⟨A7, c7, rfl, hv.1, hv.2⟩⟩)) ?_
            trivial
          case done41 =>
            refine fun w8 hb8 v0 h0 v1 h1 v2 h2 v3 h3 v4 h4 v5 h5 v6 h6 b hbf => ?_
            obtain rfl := h0; obtain rfl := h1; obtain rfl := h2; obtain rfl := h4
            obtain ⟨q3, f3⟩ := h3
            obtain ⟨q5, f5⟩ := h5
            have q6 := h6; have s9_ := sB
            simp only [Act.put, List.setIfInBounds_toArray, List.set_cons_zero, List.set_cons_succ] at hbf
            subst hbf
            replace B0 := B0.below hb8
            replace k0s := k0s.below hb8
            replace k0d := k0d.below hb8
            replace k0z := k0z.below hb8
            replace k0 := k0.below hb8
            replace B1 := B1.below hb8
            replace k1s := k1s.below hb8
            replace k1d := k1d.below hb8
            replace k1z := k1z.below hb8
            replace k1 := k1.below hb8
            replace BR0 := BR0.below hb8
            replace B10 := B10.below hb8
            replace k10s := k10s.below hb8
            replace k10 := k10.below hb8
            replace B11 := B11.below hb8
            replace k11s := k11s.below hb8
            replace k11 := k11.below hb8
            replace kg := kg.below hb8
            replace n6 := n6.below hb8
            replace n8 := n8.below hb8
            replace n49 := n49.below hb8
            replace bb := bb.trans (hb8.mono bb.size)
            have hsz8 := bb.size
            have s_3 := sB
            have s_5 := sB
            obtain ⟨A9, c9, rfl, q9, f9⟩ := q6
            refine any_store (i := 7) (by kernel_rfl) rfl rfl rfl rfl rfl rfl (cells := [.bool (ngB U), .slice A11 (digs 4294967296 (U).natAbs).length c11, .slice A9 (digs 4294967296 ((m1 * m2) * L)).length c9]) rfl BR0 rfl (by kernel_rfl) (one3 rfl rfl rfl) fun w9 hg9 B9 => ?_
            have k9 := off k11s BR0 no_ints3 hg9
            have d9 := off q9 BR0 no_ints3 hg9
            have bb9 := bb.trans ((Below.refl _ _).grown hg9 bb.size (fun g hg => by injection hg with hg; omega))
            obtain ⟨C0, C1, C2, _, _, _⟩ := three B9
            refine any_done (by kernel_rfl) ?_
            go_wp2
            rw [HQ0.out]
            exact bodyPost_ret (v := .agg #[.bool (ngB U), .slice A11 (digs 4294967296 (U).natAbs).length c11, .slice A9 (digs 4294967296 ((m1 * m2) * L)).length c9]) (by simp [results, Tryz.results9, go_sem, C0, C1, C2]) rfl ⟨_, rfl, isQ_mk k9 d9 (by rw [HQN.out]) (by rw [HQN.out]) HQD.out, freshQ_mk f11_ (f9.mono s9_), bb9⟩
theorem fadd_any (a0 : Value) (x : Rat) (a1 : Value) (y : Rat) (w : World) (h0 : IsQ w a0 x) (h1 : IsQ w a1 y) (hl : lenQ x 1000) (hl2 : lenQ y 1000) : Calls Tryz.prog 9 #[a0, a1] w (RetQn (x + y) w) :=
  (add8_any a0 x a1 y w h0 h1 hl hl2).mono fun _ _ h => h.n

set_option maxHeartbeats 1600000 in
set_option maxRecDepth 100000 in
theorem sub8_any (a0 : Value) (x : Rat) (a1 : Value) (y : Rat) (w : World) (h0 : IsQ w a0 x) (h1 : IsQ w a1 y) (hl : lenQ x 1000) (hl2 : lenQ y 1000) :
    Calls Tryz.prog 12 #[a0, a1] w (RetQ (x - y) w) := by
  obtain ⟨u0, t0, rfl, s0, r0⟩ := h0
  obtain ⟨A0, c0, rfl, _⟩ := id s0
  obtain ⟨D0, e0, rfl, _⟩ := id r0
  obtain ⟨u1, t1, rfl, s1, r1⟩ := h1
  obtain ⟨A1, c1, rfl, _⟩ := id s1
  obtain ⟨D1, e1, rfl, _⟩ := id r1
  have HS : Hid (x + -y = x - y) := (Rat.sub_eq_add_neg x y).symm
  go_enter Tryz.func12, Tryz.ntmps12
  go_upto_region 1 with (fail)
  obtain ⟨wx, hwx, bb, B0, B1, BR0, hsz⟩ := vars3 w 27 27 27 #[.bool (ngB (x).num), .slice A0 (digs 4294967296 (x).num.natAbs).length c0, .slice D0 (digs 4294967296 (x).den).length e0] #[.bool (ngB (y).num), .slice A1 (digs 4294967296 (y).num.natAbs).length c1, .slice D1 (digs 4294967296 (y).den).length e1] #[.bool false, .slice none 0 0, .slice none 0 0]
  rw [hwx]
  clear hwx
  have k0s := s0.below bb
  have k0d := r0.below bb
  have k0z : IsZ wx (.agg #[.bool (ngB (x).num), .slice A0 (digs 4294967296 (x).num.natAbs).length c0]) (x).num := ⟨_, rfl, k0s⟩
  have k0 : IsQ wx (.agg #[.bool (ngB (x).num), .slice A0 (digs 4294967296 (x).num.natAbs).length c0, .slice D0 (digs 4294967296 (x).den).length e0]) (x) := ⟨_, _, rfl, k0s, k0d⟩
  have k1s := s1.below bb
  have k1d := r1.below bb
  have k1z : IsZ wx (.agg #[.bool (ngB (y).num), .slice A1 (digs 4294967296 (y).num.natAbs).length c1]) (y).num := ⟨_, rfl, k1s⟩
  have k1 : IsQ wx (.agg #[.bool (ngB (y).num), .slice A1 (digs 4294967296 (y).num.natAbs).length c1, .slice D1 (digs 4294967296 (y).den).length e1]) (y) := ⟨_, _, rfl, k1s, k1d⟩
  have hsz0 := bb.size
  have sB := bb.size
  refine flow 4 [Pd.eq (.agg #[.bool (ngB (x).num), .slice A0 (digs 4294967296 (x).num.natAbs).length c0, .slice D0 (digs 4294967296 (x).den).length e0]), Pd.eq (.agg #[.bool (ngB (y).num), .slice A1 (digs 4294967296 (y).num.natAbs).length c1, .slice D1 (digs 4294967296 (y).den).length e1]), pq (-y) wx.heap.size, pq (x - y) wx.heap.size] (by kernel_rfl) (by kernel_rfl) ?ob42 ?done42
  case ob42 =>
    refine And.intro (ob_load rfl (wt_none rfl) (ev_far rfl rfl) (fun w2 hb => run_loadAll Tryz.underlying27 rfl (by kernel_rfl) (B0.drew.below hb)) (fun _ _ => rfl)) ?_
    refine And.intro (ob_load rfl (wt_none rfl) (ev_far rfl rfl) (fun w2 hb => run_loadAll Tryz.underlying27 rfl (by kernel_rfl) (B1.drew.below hb)) (fun _ _ => rfl)) ?_
    refine And.intro (ob_call1 rfl Tryz.func27 (by kernel_rfl) (wt_none rfl) (ev_dep (j := 1) (by kernel_rfl) rfl rfl) (fun w2 u0 hb h0 => by obtain rfl := h0; exact (neg8_any _ y _ (k1.drew.below hb) (hl2.mono (by decide))).mono fun e w3 h => RetQ.pd h hb.size)) ?_
    refine And.intro (ob_call2 rfl Tryz.func9 (by kernel_rfl) (wt_none rfl) (ev_dep (j := 0) (by kernel_rfl) rfl rfl) (ev_dep (j := 2) (by kernel_rfl) rfl rfl) (fun w2 u0 u1 hb h0 h1 => by obtain rfl := h0; exact (HS.out ▸ add8_any _ x _ (-y) _ (k0.drew.below hb) h1.1 hl (lenQ_neg hl2)).mono fun e w3 h => RetQ.pd h hb.size)) ?_
    trivial
  case done42 =>
    refine fun w11 hb11 v0 h0 v1 h1 v2 h2 v3 h3 b hbf => ?_
    obtain rfl := h0; obtain rfl := h1
    obtain ⟨q2, f2⟩ := h2
    obtain ⟨q3, f3⟩ := h3
    simp only [Act.put, List.setIfInBounds_toArray, List.set_cons_zero, List.set_cons_succ] at hbf
    subst hbf
    replace B0 := B0.below hb11
    replace k0s := k0s.below hb11
    replace k0d := k0d.below hb11
    replace k0z := k0z.below hb11
    replace k0 := k0.below hb11
    replace B1 := B1.below hb11
    replace k1s := k1s.below hb11
    replace k1d := k1d.below hb11
    replace k1z := k1z.below hb11
    replace k1 := k1.below hb11
    replace BR0 := BR0.below hb11
    replace bb := bb.trans (hb11.mono bb.size)
    have hsz11 := bb.size
    have s_2 := sB
    have s_3 := sB
    obtain ⟨u3, t3, rfl, q3, d3⟩ := q3
    obtain ⟨A9, c9, rfl, _⟩ := id q3
    obtain ⟨D9, e9, rfl, _⟩ := id d3
    refine any_store (i := 4) (by kernel_rfl) rfl rfl rfl rfl rfl rfl (cells := [.bool (ngB (x - y).num), .slice A9 (digs 4294967296 (x - y).num.natAbs).length c9, .slice D9 (digs 4294967296 (x - y).den).length e9]) rfl BR0 rfl (by kernel_rfl) (one3 rfl rfl rfl) fun w9 hg9 B9 => ?_
    have k9 := off q3 BR0 no_ints3 hg9
    have d9 := off d3 BR0 no_ints3 hg9
    have f9 := f3.mono (show w.heap.size ≤ _ from s_3)
    have bb9 := bb.trans ((Below.refl _ _).grown hg9 bb.size (fun g hg => by injection hg with hg; omega))
    obtain ⟨C0, C1, C2, _, _, _⟩ := three B9
    refine any_done (by kernel_rfl) ?_
    go_wp2
    exact bodyPost_ret (v := .agg #[.bool (ngB (x - y).num), .slice A9 (digs 4294967296 (x - y).num.natAbs).length c9, .slice D9 (digs 4294967296 (x - y).den).length e9]) (by simp [results, Tryz.results12, go_sem, C0, C1, C2]) rfl ⟨_, rfl, ⟨_, _, rfl, k9, d9⟩, f9, bb9⟩
theorem fsub_any (a0 : Value) (x : Rat) (a1 : Value) (y : Rat) (w : World) (h0 : IsQ w a0 x) (h1 : IsQ w a1 y) (hl : lenQ x 1000) (hl2 : lenQ y 1000) : Calls Tryz.prog 12 #[a0, a1] w (RetQn (x - y) w) :=
  (sub8_any a0 x a1 y w h0 h1 hl hl2).mono fun _ _ h => h.n

set_option maxHeartbeats 1600000 in
set_option maxRecDepth 100000 in
theorem cmp8_any (a0 a1 : Value) (x y : Rat) (t : Int) (w : World) (h0 : IsQ w a0 x) (h1 : IsQ w a1 y) (hl : lenQ x 100000) (hl2 : lenQ y 100000) (ht : t = ordq x y) :
    Calls Tryz.prog 16 #[a0, a1] w (RetV (.int .i64 t) w) := by
  obtain ⟨u0, t0, rfl, s0, r0⟩ := h0
  obtain ⟨A0, c0, rfl, _⟩ := id s0
  obtain ⟨D0, e0, rfl, _⟩ := id r0
  obtain ⟨u1, t1, rfl, s1, r1⟩ := h1
  obtain ⟨A1, c1, rfl, _⟩ := id s1
  obtain ⟨D1, e1, rfl, _⟩ := id r1
  have HT : Hid (t = ordz (x.num * ((y.den : Nat) : Int)) (y.num * ((x.den : Nat) : Int))) := by show _ = _; rw [ht, ordq_cross]
  clear ht
  have lx1 := hl.1
  have ly1 := hl2.1
  have lx2 : lenZ ((x.den : Nat) : Int) ≤ 100000 := by rw [lenD]; exact hl.2
  have ly2 : lenZ ((y.den : Nat) : Int) ≤ 100000 := by rw [lenD]; exact hl2.2
  go_enter Tryz.func16, Tryz.ntmps16
  go_upto_region 1 with (fail)
  obtain ⟨wx, hwx, bb, B0, B1, hsz⟩ := vars2 w 27 27 #[.bool (ngB (x).num), .slice A0 (digs 4294967296 (x).num.natAbs).length c0, .slice D0 (digs 4294967296 (x).den).length e0] #[.bool (ngB (y).num), .slice A1 (digs 4294967296 (y).num.natAbs).length c1, .slice D1 (digs 4294967296 (y).den).length e1]
  rw [hwx]
  clear hwx
  have k0s := s0.below bb
  have k0d := r0.below bb
  have k0z : IsZ wx (.agg #[.bool (ngB (x).num), .slice A0 (digs 4294967296 (x).num.natAbs).length c0]) (x).num := ⟨_, rfl, k0s⟩
  have k0 : IsQ wx (.agg #[.bool (ngB (x).num), .slice A0 (digs 4294967296 (x).num.natAbs).length c0, .slice D0 (digs 4294967296 (x).den).length e0]) (x) := ⟨_, _, rfl, k0s, k0d⟩
  have k1s := s1.below bb
  have k1d := r1.below bb
  have k1z : IsZ wx (.agg #[.bool (ngB (y).num), .slice A1 (digs 4294967296 (y).num.natAbs).length c1]) (y).num := ⟨_, rfl, k1s⟩
  have k1 : IsQ wx (.agg #[.bool (ngB (y).num), .slice A1 (digs 4294967296 (y).num.natAbs).length c1, .slice D1 (digs 4294967296 (y).den).length e1]) (y) := ⟨_, _, rfl, k1s, k1d⟩
  have hsz0 := bb.size
  have sB := bb.size
  refine flow 14 [Pd.eq (.pointer (some ⟨w.heap.size, 0, none⟩)), Pd.eq (.agg #[.bool (ngB (x).num), .slice A0 (digs 4294967296 (x).num.natAbs).length c0]), Pd.eq (.pointer (some ⟨w.heap.size + 1, 2, none⟩)), Pd.eq (.slice D1 (digs 4294967296 (y).den).length e1), pi ((((y).den : Nat) : Int)), pi ((x.num * ((y.den : Nat) : Int))), Pd.eq (.pointer (some ⟨w.heap.size + 1, 0, none⟩)), Pd.eq (.agg #[.bool (ngB (y).num), .slice A1 (digs 4294967296 (y).num.natAbs).length c1]), Pd.eq (.pointer (some ⟨w.heap.size, 2, none⟩)), Pd.eq (.slice D0 (digs 4294967296 (x).den).length e0), pi ((((x).den : Nat) : Int)), pi ((y.num * ((x.den : Nat) : Int))), Pd.eq (.int .i64 t), Pd.eq (.int .i64 t)] (by kernel_rfl) (by kernel_rfl) ?ob43 ?done43
  case ob43 =>
    refine And.intro (ob_fieldAddr rfl (wt_none rfl) (ev_far rfl rfl) (fun _ => by kernel_rfl) (fun _ => rfl)) ?_
    refine And.intro (ob_load rfl (wt_none rfl) (ev_dep (j := 0) (by kernel_rfl) rfl rfl) (fun w2 hb => run_loadPart Tryz.underlying25 rfl (by kernel_rfl) (B0.drew.below hb) rfl) (fun _ _ => rfl)) ?_
    refine And.intro (ob_fieldAddr rfl (wt_none rfl) (ev_far rfl rfl) (fun _ => by kernel_rfl) (fun _ => rfl)) ?_
    refine And.intro (ob_load rfl (wt_none rfl) (ev_dep (j := 2) (by kernel_rfl) rfl rfl) (fun w2 hb => run_load1 Tryz.underlying23 rfl ((B1.drew.below hb).cell 2)) (fun _ _ => rfl)) ?_
    refine And.intro (ob_call1 rfl Tryz.func41 (by kernel_rfl) (wt_none rfl) (ev_dep (j := 3) (by kernel_rfl) rfl rfl) (fun w2 u0 hb h0 => by obtain rfl := h0; exact unsigned_pd _ ((y).den) _ (k1d.drew.below hb))) ?_
    refine And.intro (ob_call2 rfl Tryz.func40 (by kernel_rfl) (wt_none rfl) (ev_dep (j := 1) (by kernel_rfl) rfl rfl) (ev_dep (j := 4) (by kernel_rfl) rfl rfl) (fun w2 u0 u1 hb h0 h1 => by obtain rfl := h0; exact (zmul_any _ _ _ _ (x.num * ((y.den : Nat) : Int)) _ (k0z.drew.below hb) h1 lx1 ly2 rfl).mono fun e w3 h => RetZ.pi h)) ?_
    refine And.intro (ob_fieldAddr rfl (wt_none rfl) (ev_far rfl rfl) (fun _ => by kernel_rfl) (fun _ => rfl)) ?_
    refine And.intro (ob_load rfl (wt_none rfl) (ev_dep (j := 6) (by kernel_rfl) rfl rfl) (fun w2 hb => run_loadPart Tryz.underlying25 rfl (by kernel_rfl) (B1.drew.below hb) rfl) (fun _ _ => rfl)) ?_
    refine And.intro (ob_fieldAddr rfl (wt_none rfl) (ev_far rfl rfl) (fun _ => by kernel_rfl) (fun _ => rfl)) ?_
    refine And.intro (ob_load rfl (wt_none rfl) (ev_dep (j := 8) (by kernel_rfl) rfl rfl) (fun w2 hb => run_load1 Tryz.underlying23 rfl ((B0.drew.below hb).cell 2)) (fun _ _ => rfl)) ?_
    refine And.intro (ob_call1 rfl Tryz.func41 (by kernel_rfl) (wt_none rfl) (ev_dep (j := 9) (by kernel_rfl) rfl rfl) (fun w2 u0 hb h0 => by obtain rfl := h0; exact unsigned_pd _ ((x).den) _ (k0d.drew.below hb))) ?_
    refine And.intro (ob_call2 rfl Tryz.func40 (by kernel_rfl) (wt_none rfl) (ev_dep (j := 7) (by kernel_rfl) rfl rfl) (ev_dep (j := 10) (by kernel_rfl) rfl rfl) (fun w2 u0 u1 hb h0 h1 => by obtain rfl := h0; exact (zmul_any _ _ _ _ (y.num * ((x.den : Nat) : Int)) _ (k1z.drew.below hb) h1 ly1 lx2 rfl).mono fun e w3 h => RetZ.pi h)) ?_
    refine And.intro (ob_call2 rfl Tryz.func49 (by kernel_rfl) (wt_none rfl) (ev_dep (j := 5) (by kernel_rfl) rfl rfl) (ev_dep (j := 11) (by kernel_rfl) rfl rfl) (fun w2 u0 u1 hb h0 h1 => by exact (zcmp_any _ _ _ _ t _ h0 h1 HT.out).mono fun e w3 h => RetV.pd h)) ?_
    refine And.intro (ob_assign rfl (wt_none rfl) (ev_dep (j := 12) (by kernel_rfl) rfl rfl) (fun _ _ h => h)) ?_
    trivial
  case done43 =>
    refine fun w1 hb1 v0 h0 v1 h1 v2 h2 v3 h3 v4 h4 v5 h5 v6 h6 v7 h7 v8 h8 v9 h9 v10 h10 v11 h11 v12 h12 v13 h13 b hbf => ?_
    obtain rfl := h0; obtain rfl := h1; obtain rfl := h2; obtain rfl := h3; obtain rfl := h6; obtain rfl := h7; obtain rfl := h8; obtain rfl := h9; obtain rfl := h12; obtain rfl := h13
    have q4 := h4
    have q5 := h5
    have q10 := h10
    have q11 := h11
    simp only [Act.put, List.setIfInBounds_toArray, List.set_cons_zero, List.set_cons_succ] at hbf
    subst hbf
    replace B0 := B0.below hb1
    replace k0s := k0s.below hb1
    replace k0d := k0d.below hb1
    replace k0z := k0z.below hb1
    replace k0 := k0.below hb1
    replace B1 := B1.below hb1
    replace k1s := k1s.below hb1
    replace k1d := k1d.below hb1
    replace k1z := k1z.below hb1
    replace k1 := k1.below hb1
    replace bb := bb.trans (hb1.mono bb.size)
    have hsz1 := bb.size
    refine any_done (by kernel_rfl) ?_
    go_wp2
    go_ret
    exact ⟨rfl, bb⟩
theorem fcmp_any (a0 a1 : Value) (x y : Rat) (t : Int) (w : World) (h0 : IsQ w a0 x) (h1 : IsQ w a1 y) (hl : lenQ x 1000) (hl2 : lenQ y 1000) (ht : t = ordq x y) : Calls Tryz.prog 16 #[a0, a1] w (RetV (.int .i64 t) w) := cmp8_any a0 a1 x y t w h0 h1 (hl.mono (by decide)) (hl2.mono (by decide)) ht

end Go.Proofs.YtbebmknfecehnaaGreat.rat
