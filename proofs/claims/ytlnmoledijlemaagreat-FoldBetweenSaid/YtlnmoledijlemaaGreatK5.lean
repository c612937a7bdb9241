/- Package rat: its own contracts, each said of fractions: Add, Sub, Cmp. Condition: as each says.
Package rat: its own contracts, each said of fractions: Make, Of, Frac. Condition: as each says.
Package rat: its own contracts, each said of fractions: Same, One, May. Condition: as each says.
A region that draws its order, a chain of whose operations may come behind the first store and reads what was there: the stores write new variables alone, so it yields the same then. No program stands here.
Rows of fractions that the call makes at their full length: one block, written element by element; calls through a function's value. Condition: as each says.
Package fold: own, Sum, Product, Not, Whole. Condition: as each says.
Package fold: raised, power, Pow. Condition: as each says.
Sorting by insertion: what its loops keep; powers of a fraction's parts; lists written from the front. Mathematics alone.
The library's stable sort of at most eight fractions by Cmp. Condition: as each says.
The library's MinFunc and MaxFunc of fractions by Cmp; package fold: Least, Greatest. Condition: as each says. -/
import Derived.Test.YtlnmoledijlemaaGreatK4
import Derived.OrdersHeld
namespace Go.Proofs.YtlnmoledijlemaaGreat.rat
open Go.RowKit Go.Proofs.YtlnmoledijlemaaGreat.num Go.Proofs.YtlnmoledijlemaaGreat.mem Go.Proofs.YtlnmoledijlemaaGreat.nat Go.Proofs.YtlnmoledijlemaaGreat.txt Go.Proofs.YtlnmoledijlemaaGreat.str Go.Proofs.YtlnmoledijlemaaGreat.flow Go.Proofs.YtlnmoledijlemaaGreat.whl
set_option linter.unusedVariables false
set_option maxHeartbeats 3200000 in
set_option maxRecDepth 100000 in
theorem add8_any (a0 : Value) (x : Rat) (a1 : Value) (y : Rat) (w : World) (h0 : IsQ w a0 x) (h1 : IsQ w a1 y) (hl : lenQ x 1000) (hl2 : lenQ y 1000) :
    Calls Tryz.prog 46 #[a0, a1] w (RetQ (x + y) w) := by
  obtain ⟨u0, t0, rfl, s0, r0⟩ := h0
  obtain ⟨A0, c0, rfl, _⟩ := id s0
  obtain ⟨D0, e0, rfl, _⟩ := id r0
  obtain ⟨u1, t1, rfl, s1, r1⟩ := h1
  obtain ⟨A1, c1, rfl, _⟩ := id s1
  obtain ⟨D1, e1, rfl, _⟩ := id r1
  obtain ⟨G, hG⟩ : ∃ G, G = Nat.gcd x.den y.den := ⟨_, rfl⟩
  obtain ⟨m1, ha⟩ : ∃ m1, m1 = x.den / G := ⟨_, rfl⟩
  obtain ⟨m2, hb_⟩ : ∃ m2, m2 = y.den / G := ⟨_, rfl⟩
  have hGp : 0 < G := by rw [hG]; exact Nat.gcd_pos_of_pos_left _ x.den_pos
  have hGd : G ≤ x.den := by rw [hG]; exact Nat.gcd_le_left _ x.den_pos
  obtain ⟨S, hS⟩ : ∃ S, S = (x.num * ((m2 : Nat) : Int) + y.num * ((m1 : Nat) : Int)) := ⟨_, rfl⟩
  obtain ⟨U, hU⟩ : ∃ U, U = (mkRat S G).num := ⟨_, rfl⟩
  obtain ⟨L, hL⟩ : ∃ L, L = (mkRat S G).den := ⟨_, rfl⟩
  obtain ⟨Q, hQ⟩ : ∃ Q, Q = x + y := ⟨_, rfl⟩
  have HQ0 : Hid (x + y = Q) := hQ.symm
  have HP := add_parts x y hG ha hb_
  rw [← hS, ← hU, ← hL, ← hQ] at HP
  have HQN := Lib.hid HP.1
  have HQD := Lib.hid HP.2
  have lx1 := hl.1
  have lx2 := hl.2
  have ly1 := hl2.1
  have ly2 := hl2.2
  have la : (digs 4294967296 m1).length ≤ 1000 := Nat.le_trans (digs_len_mono (by omega) (by rw [ha]; exact Nat.div_le_self _ _)) lx2
  have lb : (digs 4294967296 m2).length ≤ 1000 := Nat.le_trans (digs_len_mono (by omega) (by rw [hb_]; exact Nat.div_le_self _ _)) ly2
  have lG : (digs 4294967296 G).length ≤ 1000 := Nat.le_trans (digs_len_mono (by omega) hGd) lx2
  have lza : lenZ ((m1 : Nat) : Int) ≤ 1000 := by rw [lenD]; exact la
  have lzb : lenZ ((m2 : Nat) : Int) ≤ 1000 := by rw [lenD]; exact lb
  have lp : lenZ (x.num * ((m2 : Nat) : Int)) ≤ 2000 := lenZ_mul_le lx1 lzb
  have lq : lenZ (y.num * ((m1 : Nat) : Int)) ≤ 2000 := lenZ_mul_le ly1 lza
  have lS : lenZ S ≤ 4001 := by rw [hS]; exact lenZ_add_le lp lq
  have HL1 : Hid ((digs 4294967296 x.den).length ≤ 90000) := Nat.le_trans lx2 (by decide)
  have HL2 : Hid ((digs 4294967296 y.den).length ≤ 90000) := Nat.le_trans ly2 (by decide)
  have lL : (digs 4294967296 L).length ≤ 1000 := Nat.le_trans (digs_len_mono (by omega) (by rw [hL, mk_den S (by omega)]; exact Nat.div_le_self _ _)) lG
  have lab : (digs 4294967296 (m1 * m2)).length ≤ 2000 := by have := mul_len m1 m2; omega
  have HG : Hid (gcds [x.den, y.den] = G) := by show _ = _; rw [hG]; simp [gcds]
  have HM1 : Hid (x.den % G = 0) := by show _ = _; rw [hG]; exact Nat.mod_eq_zero_of_dvd (Nat.gcd_dvd_left _ _)
  have HM2 : Hid (y.den % G = 0) := by show _ = _; rw [hG]; exact Nat.mod_eq_zero_of_dvd (Nat.gcd_dvd_right _ _)
  have HA := Lib.hid ha
  have HB := Lib.hid hb_
  have HS : Hid ((x.num * ((m2 : Nat) : Int) + y.num * ((m1 : Nat) : Int)) = S) := hS.symm
  have HU := Lib.hid hU
  have HL := Lib.hid hL
  have HGn : Hid (G ≠ 0) := by show _ ≠ _; omega
  clear hG ha hb_ hS hU hL hQ HP
  go_enter Tryz.func46, Tryz.ntmps46
  go_upto_region 1 with (fail)
  obtain ⟨wx, hwx, bb, B0, B1, BR0, hsz⟩ := vars3 w 28 28 28 #[.bool (ngB (x).num), .slice A0 (digs 4294967296 (x).num.natAbs).length c0, .slice D0 (digs 4294967296 (x).den).length e0] #[.bool (ngB (y).num), .slice A1 (digs 4294967296 (y).num.natAbs).length c1, .slice D1 (digs 4294967296 (y).den).length e1] #[.bool false, .slice none 0 0, .slice none 0 0]
  rw [hwx]
  clear hwx
  have k0s := s0.below bb
  have k0d := r0.below bb
  have k0z : IsZ wx (.agg #[.bool (ngB (x).num), .slice A0 (digs 4294967296 (x).num.natAbs).length c0]) (x).num := ⟨_, rfl, k0s⟩
  have k0 : IsQ wx (.agg #[.bool (ngB (x).num), .slice A0 (digs 4294967296 (x).num.natAbs).length c0, .slice D0 (digs 4294967296 (x).den).length e0]) (x) := ⟨_, _, rfl, k0s, k0d⟩
  have k1s := s1.below bb
  have k1d := r1.below bb
  have k1z : IsZ wx (.agg #[.bool (ngB (y).num), .slice A1 (digs 4294967296 (y).num.natAbs).length c1]) (y).num := ⟨_, rfl, k1s⟩
  have k1 : IsQ wx (.agg #[.bool (ngB (y).num), .slice A1 (digs 4294967296 (y).num.natAbs).length c1, .slice D1 (digs 4294967296 (y).den).length e1]) (y) := ⟨_, _, rfl, k1s, k1d⟩
  have hsz0 := bb.size
  obtain ⟨x00, x01, x02, _, _, _⟩ := three B0
  obtain ⟨x10, x11, x12, _, _, _⟩ := three B1
  go_wp2_with fail
  have hbA := below_alloc (Nat.le_refl wx.heap.size) (.cells #[.slice D0 (digs 4294967296 (x).den).length e0, .slice D1 (digs 4294967296 (y).den).length e1] 24)
  refine (ggcd_any _ [_, _] [x.den, y.den] _ (isV_lit wx 24 [_, _]) (nums2 (k0d.below hbA) (k1d.below hbA)) (by simp) (by intro q hq; simp at hq; rcases hq with rfl | rfl; exact HL1.out; exact HL2.out)).mono ?_
  rintro e w1 ⟨v1, rfl, kg, kgf, b1⟩
  have hb1 := hbA.trans (b1.mono hbA.size)
  rw [HG.out] at kg
  clear x00 x01 x02 x10 x11 x12
  replace B0 := B0.below hb1
  replace k0s := k0s.below hb1
  replace k0d := k0d.below hb1
  replace k0z := k0z.below hb1
  replace k0 := k0.below hb1
  replace B1 := B1.below hb1
  replace k1s := k1s.below hb1
  replace k1d := k1d.below hb1
  replace k1z := k1z.below hb1
  replace k1 := k1.below hb1
  replace BR0 := BR0.below hb1
  replace bb := bb.trans (hb1.mono bb.size)
  have hsz1 := bb.size
  obtain ⟨Akg, ckg, rfl, _⟩ := id kg
  have sB := bb.size
  go_upto_region 2 with (fail)
  refine flowp 9 [Pd.eq (.pointer (some ⟨w.heap.size, 2, none⟩)), Pd.eq (.slice D0 (digs 4294967296 (x).den).length e0), Pd.eq (.slice Akg (digs 4294967296 G).length ckg), pt .u64 (digs 4294967296 m1) 0 w1.heap.size, pt .u64 (digs 4294967296 m1) 0 w1.heap.size, ps .u64 (digs 4294967296 m1) w1.heap.size, Pd.eq (.int .i64 0), ps .u64 (digs 4294967296 m1) w1.heap.size, Pd.eq (.int .i64 0)] (by kernel_rfl) ?ob37 ?done37
  case ob37 =>
    refine And.intro (ob_fieldAddr rfl (wt_none rfl) (ev_far rfl rfl) (fun _ => by kernel_rfl) (fun _ => rfl)) ?_
    refine And.intro (ob_load rfl (wt_none rfl) (ev_dep (j := 0) (by kernel_rfl) rfl rfl) (fun w2 hb => run_load1 Tryz.underlying24 rfl ((B0.below hb).cell 2)) (fun _ _ => rfl)) ?_
    refine And.intro (ob_move rfl (wt_none rfl) (ev_far rfl rfl) (fun _ _ h => h)) ?_
    refine And.intro (ob_call2 rfl Tryz.func79 (by kernel_rfl) (wt_none rfl) (ev_dep (j := 1) (by kernel_rfl) rfl rfl) (ev_dep (j := 2) (by kernel_rfl) rfl rfl) (fun w2 u0 u1 hb h0 h1 => by obtain rfl := h0; obtain rfl := h1; exact (dexact_ok _ _ x.den G _ (k0d.below hb) (kg.below hb) HL1.out (Nat.le_trans lG (by decide)) hGp m1 HM1.out HA.out).mono fun e w3 h => RetSI.pd h hb.size)) ?_
    refine And.intro (ob_move rfl (wt_none rfl) (ev_dep (j := 3) (by kernel_rfl) rfl rfl) (fun _ _ h => h)) ?_
    refine And.intro (ob_extract rfl (wt_none rfl) (ev_dep (j := 4) (by kernel_rfl) rfl rfl) (fun w2 u hu => by obtain ⟨v, rfl, q1, q2⟩ := hu; exact ⟨v, rfl, q1, q2⟩)) ?_
    refine And.intro (ob_extract rfl (wt_none rfl) (ev_dep (j := 4) (by kernel_rfl) rfl rfl) (fun w2 u hu => by obtain ⟨v, rfl, q1, q2⟩ := hu; exact ⟨_, rfl, rfl⟩)) ?_
    refine And.intro (ob_assign rfl (wt_none rfl) (ev_dep (j := 5) (by kernel_rfl) rfl rfl) (fun _ _ h => h)) ?_
    refine And.intro (ob_assign rfl (wt_none rfl) (ev_dep (j := 6) (by kernel_rfl) rfl rfl) (fun _ _ h => h)) ?_
    trivial
  case done37 =>
    refine fun w2 hb2 v0 h0 v1 h1 v2 h2 v3 h3 v4 h4 v5 h5 v6 h6 v7 h7 v8 h8 b hbf => ?_
    obtain rfl := h0; obtain rfl := h1; obtain rfl := h2; obtain rfl := h6; obtain rfl := h8
    clear h3
    clear h4
    obtain ⟨q5, f5⟩ := h5
    obtain ⟨q7, f7⟩ := h7
    simp only [Act.put, List.setIfInBounds_toArray, List.set_cons_zero, List.set_cons_succ] at hbf
    subst hbf
    replace B0 := B0.below hb2
    replace k0s := k0s.below hb2
    replace k0d := k0d.below hb2
    replace k0z := k0z.below hb2
    replace k0 := k0.below hb2
    replace B1 := B1.below hb2
    replace k1s := k1s.below hb2
    replace k1d := k1d.below hb2
    replace k1z := k1z.below hb2
    replace k1 := k1.below hb2
    replace BR0 := BR0.below hb2
    replace kg := kg.below hb2
    replace bb := bb.trans (hb2.mono bb.size)
    have hsz2 := bb.size
    have s_5 := sB
    have s_7 := sB
    refine ops_done ?_
    obtain ⟨A6, c6, rfl, _⟩ := id q7
    have n6 := q7
    have n6f := f7
    have n6z_ := s_7
    have sB := bb.size
    go_upto_region 3 with (fail)
    refine flowp 9 [Pd.eq (.pointer (some ⟨w.heap.size + 1, 2, none⟩)), Pd.eq (.slice D1 (digs 4294967296 (y).den).length e1), Pd.eq (.slice Akg (digs 4294967296 G).length ckg), pt .u64 (digs 4294967296 m2) 0 w2.heap.size, pt .u64 (digs 4294967296 m2) 0 w2.heap.size, ps .u64 (digs 4294967296 m2) w2.heap.size, Pd.eq (.int .i64 0), ps .u64 (digs 4294967296 m2) w2.heap.size, Pd.eq (.int .i64 0)] (by kernel_rfl) ?ob38 ?done38
    case ob38 =>
      refine And.intro (ob_fieldAddr rfl (wt_none rfl) (ev_far rfl rfl) (fun _ => by kernel_rfl) (fun _ => rfl)) ?_
      refine And.intro (ob_load rfl (wt_none rfl) (ev_dep (j := 0) (by kernel_rfl) rfl rfl) (fun w2 hb => run_load1 Tryz.underlying24 rfl ((B1.below hb).cell 2)) (fun _ _ => rfl)) ?_
      refine And.intro (ob_move rfl (wt_none rfl) (ev_far rfl rfl) (fun _ _ h => h)) ?_
      refine And.intro (ob_call2 rfl Tryz.func79 (by kernel_rfl) (wt_none rfl) (ev_dep (j := 1) (by kernel_rfl) rfl rfl) (ev_dep (j := 2) (by kernel_rfl) rfl rfl) (fun w2 u0 u1 hb h0 h1 => by obtain rfl := h0; obtain rfl := h1; exact (dexact_ok _ _ y.den G _ (k1d.below hb) (kg.below hb) HL2.out (Nat.le_trans lG (by decide)) hGp m2 HM2.out HB.out).mono fun e w3 h => RetSI.pd h hb.size)) ?_
      refine And.intro (ob_move rfl (wt_none rfl) (ev_dep (j := 3) (by kernel_rfl) rfl rfl) (fun _ _ h => h)) ?_
      refine And.intro (ob_extract rfl (wt_none rfl) (ev_dep (j := 4) (by kernel_rfl) rfl rfl) (fun w2 u hu => by obtain ⟨v, rfl, q1, q2⟩ := hu; exact ⟨v, rfl, q1, q2⟩)) ?_
      refine And.intro (ob_extract rfl (wt_none rfl) (ev_dep (j := 4) (by kernel_rfl) rfl rfl) (fun w2 u hu => by obtain ⟨v, rfl, q1, q2⟩ := hu; exact ⟨_, rfl, rfl⟩)) ?_
      refine And.intro (ob_assign rfl (wt_none rfl) (ev_dep (j := 5) (by kernel_rfl) rfl rfl) (fun _ _ h => h)) ?_
      refine And.intro (ob_assign rfl (wt_none rfl) (ev_dep (j := 6) (by kernel_rfl) rfl rfl) (fun _ _ h => h)) ?_
      trivial
    case done38 =>
      refine fun w3 hb3 v0 h0 v1 h1 v2 h2 v3 h3 v4 h4 v5 h5 v6 h6 v7 h7 v8 h8 b hbf => ?_
      obtain rfl := h0; obtain rfl := h1; obtain rfl := h2; obtain rfl := h6; obtain rfl := h8
      clear h3
      clear h4
      obtain ⟨q5, f5⟩ := h5
      obtain ⟨q7, f7⟩ := h7
      simp only [Act.put, List.setIfInBounds_toArray, List.set_cons_zero, List.set_cons_succ] at hbf
      subst hbf
      replace B0 := B0.below hb3
      replace k0s := k0s.below hb3
      replace k0d := k0d.below hb3
      replace k0z := k0z.below hb3
      replace k0 := k0.below hb3
      replace B1 := B1.below hb3
      replace k1s := k1s.below hb3
      replace k1d := k1d.below hb3
      replace k1z := k1z.below hb3
      replace k1 := k1.below hb3
      replace BR0 := BR0.below hb3
      replace kg := kg.below hb3
      replace n6 := n6.below hb3
      replace bb := bb.trans (hb3.mono bb.size)
      have hsz3 := bb.size
      have s_5 := sB
      have s_7 := sB
      refine ops_done ?_
      obtain ⟨A8, c8, rfl, _⟩ := id q7
      have n8 := q7
      have n8f := f7
      have n8z_ := s_7
      have sB := bb.size
      go_upto_region 4 with (fail)
      have lt3_2 := Blk.lt B0
      have lt3_3 := Blk.lt B1
      have lt3_4 := Blk.lt BR0
      refine flow 12 [Pd.eq (.pointer (some ⟨w.heap.size, 0, none⟩)), Pd.eq (.agg #[.bool (ngB (x).num), .slice A0 (digs 4294967296 (x).num.natAbs).length c0]), Pd.eq (.slice A8 (digs 4294967296 m2).length c8), pi (((m2 : Nat) : Int)), pi ((x.num * ((m2 : Nat) : Int))), Pd.eq (.pointer (some ⟨w.heap.size + 1, 0, none⟩)), Pd.eq (.agg #[.bool (ngB (y).num), .slice A1 (digs 4294967296 (y).num.natAbs).length c1]), Pd.eq (.slice A6 (digs 4294967296 m1).length c6), pi (((m1 : Nat) : Int)), pi ((y.num * ((m1 : Nat) : Int))), pz (S) w3.heap.size, pn 26 #[.bool false, .slice none 0 0] w3.heap.size] (by kernel_rfl) (by kernel_rfl) ?ob39 ?done39
      case ob39 =>
        refine And.intro (ob_fieldAddr rfl (wt_none rfl) (ev_far rfl rfl) (fun _ => by kernel_rfl) (fun _ => rfl)) ?_
        refine And.intro (ob_load rfl (wt_none rfl) (ev_dep (j := 0) (by kernel_rfl) rfl rfl) (fun w2 hb => run_loadPart Tryz.underlying26 rfl (by kernel_rfl) (B0.drew.below hb) rfl) (fun _ _ => rfl)) ?_
        refine And.intro (ob_move rfl (wt_none rfl) (ev_far rfl rfl) (fun _ _ h => h)) ?_
        refine And.intro (ob_call1 rfl Tryz.func70 (by kernel_rfl) (wt_none rfl) (ev_dep (j := 2) (by kernel_rfl) rfl rfl) (fun w2 u0 hb h0 => by obtain rfl := h0; exact unsigned_pd _ (m2) _ (n8.drew.below hb))) ?_
        refine And.intro (ob_call2 rfl Tryz.func69 (by kernel_rfl) (wt_none rfl) (ev_dep (j := 1) (by kernel_rfl) rfl rfl) (ev_dep (j := 3) (by kernel_rfl) rfl rfl) (fun w2 u0 u1 hb h0 h1 => by obtain rfl := h0; exact (zmul_any _ _ _ _ (x.num * ((m2 : Nat) : Int)) _ (k0z.drew.below hb) h1 (Nat.le_trans lx1 (by decide)) (Nat.le_trans lzb (by decide)) rfl).mono fun e w3 h => RetZ.pi h)) ?_
        refine And.intro (ob_fieldAddr rfl (wt_none rfl) (ev_far rfl rfl) (fun _ => by kernel_rfl) (fun _ => rfl)) ?_
        refine And.intro (ob_load rfl (wt_none rfl) (ev_dep (j := 5) (by kernel_rfl) rfl rfl) (fun w2 hb => run_loadPart Tryz.underlying26 rfl (by kernel_rfl) (B1.drew.below hb) rfl) (fun _ _ => rfl)) ?_
        refine And.intro (ob_move rfl (wt_none rfl) (ev_far rfl rfl) (fun _ _ h => h)) ?_
        refine And.intro (ob_call1 rfl Tryz.func70 (by kernel_rfl) (wt_none rfl) (ev_dep (j := 7) (by kernel_rfl) rfl rfl) (fun w2 u0 hb h0 => by obtain rfl := h0; exact unsigned_pd _ (m1) _ (n6.drew.below hb))) ?_
        refine And.intro (ob_call2 rfl Tryz.func69 (by kernel_rfl) (wt_none rfl) (ev_dep (j := 6) (by kernel_rfl) rfl rfl) (ev_dep (j := 8) (by kernel_rfl) rfl rfl) (fun w2 u0 u1 hb h0 h1 => by obtain rfl := h0; exact (zmul_any _ _ _ _ (y.num * ((m1 : Nat) : Int)) _ (k1z.drew.below hb) h1 (Nat.le_trans ly1 (by decide)) (Nat.le_trans lza (by decide)) rfl).mono fun e w3 h => RetZ.pi h)) ?_
        refine And.intro (ob_call2 rfl Tryz.func80 (by kernel_rfl) (wt_none rfl) (ev_dep (j := 4) (by kernel_rfl) rfl rfl) (ev_dep (j := 9) (by kernel_rfl) rfl rfl) (fun w2 u0 u1 hb h0 h1 => by exact (HS.out ▸ zadd_any _ _ _ _ _ h0 h1 (Nat.le_trans lp (by decide)) (Nat.le_trans lq (by decide))).mono fun e w3 h => RetZ.pd h hb.size)) ?_
        refine And.intro (ob_alloc (z := .agg #[.bool false, .slice none 0 0]) rfl rfl (fun _ => by kernel_rfl) (fun _ _ hB h => ⟨_, rfl, hB, h⟩)) ?_
        trivial
      case done39 =>
        refine fun w4 hb4 v0 h0 v1 h1 v2 h2 v3 h3 v4 h4 v5 h5 v6 h6 v7 h7 v8 h8 v9 h9 v10 h10 v11 h11 d11 b hbf => ?_
        obtain rfl := h0; obtain rfl := h1; obtain rfl := h2; obtain rfl := h5; obtain rfl := h6; obtain rfl := h7
        have q3 := h3
        have q4 := h4
        have q8 := h8
        have q9 := h9
        obtain ⟨q10, f10⟩ := h10
        obtain ⟨g39_11, rfl, hg11, B11⟩ := h11
        simp only [Act.put, List.setIfInBounds_toArray, List.set_cons_zero, List.set_cons_succ] at hbf
        subst hbf
        replace B0 := B0.below hb4
        replace k0s := k0s.below hb4
        replace k0d := k0d.below hb4
        replace k0z := k0z.below hb4
        replace k0 := k0.below hb4
        replace B1 := B1.below hb4
        replace k1s := k1s.below hb4
        replace k1d := k1d.below hb4
        replace k1z := k1z.below hb4
        replace k1 := k1.below hb4
        replace BR0 := BR0.below hb4
        replace kg := kg.below hb4
        replace n6 := n6.below hb4
        replace n8 := n8.below hb4
        replace bb := bb.trans (hb4.mono bb.size)
        have hsz4 := bb.size
        have s_10 := sB
        have BA10 := B11
        obtain ⟨u10, rfl, q10⟩ := q10
        obtain ⟨A10, c10, rfl, _⟩ := id q10
        refine any_store (i := 12) (by kernel_rfl) rfl rfl rfl rfl rfl rfl (cells := [.bool (ngB S), .slice A10 (digs 4294967296 (S).natAbs).length c10]) rfl BA10 rfl (by kernel_rfl) (one2 rfl rfl) fun w5 hg5 BN5 => ?_
        replace q10 := off q10 BA10 no_ints2 hg5
        replace kg := off kg BA10 no_ints2 hg5
        replace n6 := off n6 BA10 no_ints2 hg5
        replace n8 := off n8 BA10 no_ints2 hg5
        replace k0s := off k0s BA10 no_ints2 hg5
        replace k0d := off k0d BA10 no_ints2 hg5
        replace k0z : IsZ w5 (.agg #[.bool (ngB (x).num), .slice A0 (digs 4294967296 (x).num.natAbs).length c0]) ((x).num) := ⟨_, rfl, k0s⟩
        replace k0 : IsQ w5 (.agg #[.bool (ngB (x).num), .slice A0 (digs 4294967296 (x).num.natAbs).length c0, .slice D0 (digs 4294967296 (x).den).length e0]) (x) := ⟨_, _, rfl, k0s, k0d⟩
        replace B0 := B0.grown hg5 (by omega)
        replace k1s := off k1s BA10 no_ints2 hg5
        replace k1d := off k1d BA10 no_ints2 hg5
        replace k1z : IsZ w5 (.agg #[.bool (ngB (y).num), .slice A1 (digs 4294967296 (y).num.natAbs).length c1]) ((y).num) := ⟨_, rfl, k1s⟩
        replace k1 : IsQ w5 (.agg #[.bool (ngB (y).num), .slice A1 (digs 4294967296 (y).num.natAbs).length c1, .slice D1 (digs 4294967296 (y).den).length e1]) (y) := ⟨_, _, rfl, k1s, k1d⟩
        replace B1 := B1.grown hg5 (by omega)
        replace BR0 := BR0.grown hg5 (by omega)
        replace bb := bb.trans ((Below.refl _ _).grown hg5 bb.size (fun g hg => by injection hg with hg; omega))
        have hsz5 := bb.size
        have B10 : Blk w5 (g39_11) _ _ := BN5
        have k10s := q10
        have k10 : IsZ w5 (.agg #[.bool (ngB S), .slice A10 (digs 4294967296 (S).natAbs).length c10]) (S) := ⟨_, rfl, k10s⟩
        refine any_done (by kernel_rfl) ?_
        have sB := bb.size
        go_upto_region 5 with (fail)
        have lt5_2 := Blk.lt B0
        have lt5_3 := Blk.lt B1
        have lt5_4 := Blk.lt BR0
        have lt5_10 := Blk.lt B10
        refine flowp 7 [Pd.eq (.agg #[.bool (ngB S), .slice A10 (digs 4294967296 (S).natAbs).length c10]), Pd.eq (.slice Akg (digs 4294967296 G).length ckg), pzs (U) (L) w5.heap.size, pzs (U) (L) w5.heap.size, pz (U) w5.heap.size, ps .u64 (digs 4294967296 L) w5.heap.size, pn 26 #[.bool false, .slice none 0 0] w5.heap.size] (by kernel_rfl) ?ob40 ?done40
        case ob40 =>
          refine And.intro (ob_load rfl (wt_none rfl) (ev_far rfl rfl) (fun w2 hb => run_loadAll Tryz.underlying26 rfl (by kernel_rfl) (B10.below hb)) (fun _ _ => rfl)) ?_
          refine And.intro (ob_move rfl (wt_none rfl) (ev_far rfl rfl) (fun _ _ h => h)) ?_
          refine And.intro (ob_call2 rfl Tryz.func81 (by kernel_rfl) (wt_none rfl) (ev_dep (j := 0) (by kernel_rfl) rfl rfl) (ev_dep (j := 1) (by kernel_rfl) rfl rfl) (fun w2 u0 u1 hb h0 h1 => by obtain rfl := h0; obtain rfl := h1; exact (reduced_any _ S _ G U L _ (k10.below hb) (kg.below hb) HGn.out (Nat.le_trans lS (by decide)) (Nat.le_trans lG (by decide)) HU.out HL.out).mono fun e w3 h => RetZS.pd h hb.size)) ?_
          refine And.intro (ob_move rfl (wt_none rfl) (ev_dep (j := 2) (by kernel_rfl) rfl rfl) (fun _ _ h => h)) ?_
          refine And.intro (ob_extract rfl (wt_none rfl) (ev_dep (j := 3) (by kernel_rfl) rfl rfl) (fun w2 u hu => by obtain ⟨v, u, rfl, q1, q2, q3, q4⟩ := hu; exact ⟨v, rfl, q1, q3⟩)) ?_
          refine And.intro (ob_extract rfl (wt_none rfl) (ev_dep (j := 3) (by kernel_rfl) rfl rfl) (fun w2 u hu => by obtain ⟨v, u, rfl, q1, q2, q3, q4⟩ := hu; exact ⟨u, rfl, q2, q4⟩)) ?_
          refine And.intro (ob_alloc (z := .agg #[.bool false, .slice none 0 0]) rfl rfl (fun _ => by kernel_rfl) (fun _ _ hB h => ⟨_, rfl, hB, h⟩)) ?_
          trivial
        case done40 =>
          refine fun w6 hb6 v0 h0 v1 h1 v2 h2 v3 h3 v4 h4 v5 h5 v6 h6 d6 b hbf => ?_
          obtain rfl := h0; obtain rfl := h1
          clear h2
          clear h3
          obtain ⟨q4, f4⟩ := h4
          obtain ⟨q5, f5⟩ := h5
          obtain ⟨g40_6, rfl, hg6, B6⟩ := h6
          simp only [Act.put, List.setIfInBounds_toArray, List.set_cons_zero, List.set_cons_succ] at hbf
          subst hbf
          replace B0 := B0.below hb6
          replace k0s := k0s.below hb6
          replace k0d := k0d.below hb6
          replace k0z := k0z.below hb6
          replace k0 := k0.below hb6
          replace B1 := B1.below hb6
          replace k1s := k1s.below hb6
          replace k1d := k1d.below hb6
          replace k1z := k1z.below hb6
          replace k1 := k1.below hb6
          replace BR0 := BR0.below hb6
          replace B10 := B10.below hb6
          replace k10s := k10s.below hb6
          replace k10 := k10.below hb6
          replace kg := kg.below hb6
          replace n6 := n6.below hb6
          replace n8 := n8.below hb6
          replace bb := bb.trans (hb6.mono bb.size)
          have hsz6 := bb.size
          have s_4 := sB
          have s_5 := sB
          obtain ⟨A49, c49, rfl, _⟩ := id q5
          have n49 := q5
          have n49f := f5
          have n49z_ := s_5
          have BA11 := B6
          obtain ⟨u4, rfl, q4⟩ := q4
          obtain ⟨A11, c11, rfl, _⟩ := id q4
          refine ops_store (i := 7) rfl rfl rfl rfl rfl rfl (cells := [.bool (ngB U), .slice A11 (digs 4294967296 (U).natAbs).length c11]) rfl BA11 rfl (by kernel_rfl) (one2 rfl rfl) fun w7 hg7 BN7 => ?_
          replace q4 := off q4 BA11 no_ints2 hg7
          replace kg := off kg BA11 no_ints2 hg7
          replace n6 := off n6 BA11 no_ints2 hg7
          replace n8 := off n8 BA11 no_ints2 hg7
          replace n49 := off n49 BA11 no_ints2 hg7
          replace k0s := off k0s BA11 no_ints2 hg7
          replace k0d := off k0d BA11 no_ints2 hg7
          replace k0z : IsZ w7 (.agg #[.bool (ngB (x).num), .slice A0 (digs 4294967296 (x).num.natAbs).length c0]) ((x).num) := ⟨_, rfl, k0s⟩
          replace k0 : IsQ w7 (.agg #[.bool (ngB (x).num), .slice A0 (digs 4294967296 (x).num.natAbs).length c0, .slice D0 (digs 4294967296 (x).den).length e0]) (x) := ⟨_, _, rfl, k0s, k0d⟩
          replace B0 := B0.grown hg7 (by omega)
          replace k1s := off k1s BA11 no_ints2 hg7
          replace k1d := off k1d BA11 no_ints2 hg7
          replace k1z : IsZ w7 (.agg #[.bool (ngB (y).num), .slice A1 (digs 4294967296 (y).num.natAbs).length c1]) ((y).num) := ⟨_, rfl, k1s⟩
          replace k1 : IsQ w7 (.agg #[.bool (ngB (y).num), .slice A1 (digs 4294967296 (y).num.natAbs).length c1, .slice D1 (digs 4294967296 (y).den).length e1]) (y) := ⟨_, _, rfl, k1s, k1d⟩
          replace B1 := B1.grown hg7 (by omega)
          replace BR0 := BR0.grown hg7 (by omega)
          replace k10s := off k10s BA11 no_ints2 hg7
          replace k10 : IsZ w7 (.agg #[.bool (ngB S), .slice A10 (digs 4294967296 (S).natAbs).length c10]) (S) := ⟨_, rfl, k10s⟩
          replace B10 := B10.grown hg7 (by omega)
          replace bb := bb.trans ((Below.refl _ _).grown hg7 bb.size (fun g hg => by injection hg with hg; omega))
          have hsz7 := bb.size
          have B11 : Blk w7 (g40_6) _ _ := BN7
          have k11s := q4
          have k11 : IsZ w7 (.agg #[.bool (ngB U), .slice A11 (digs 4294967296 (U).natAbs).length c11]) (U) := ⟨_, rfl, k11s⟩
          refine ops_assign (i := 8) (.slice A49 (digs 4294967296 L).length c49) rfl rfl rfl rfl rfl fun b hbf => ?_
          simp only [Act.put, List.setIfInBounds_toArray, List.set_cons_zero, List.set_cons_succ] at hbf
          subst hbf
          refine ops_done ?_
          have f11_ := (f4 _ _ rfl).mono s_4
          have sB := bb.size
          go_upto_region 6 with (fail)
          refine flow 7 [Pd.eq (.agg #[.bool (ngB U), .slice A11 (digs 4294967296 (U).natAbs).length c11]), Pd.eq (.slice A6 (digs 4294967296 m1).length c6), Pd.eq (.slice A8 (digs 4294967296 m2).length c8), ps .u64 (digs 4294967296 (m1 * m2)) w7.heap.size, Pd.eq (.slice A49 (digs 4294967296 L).length c49), ps .u64 (digs 4294967296 ((m1 * m2) * L)) w7.heap.size, pbq (ngB U) (.slice A11 (digs 4294967296 (U).natAbs).length c11) (digs 4294967296 ((m1 * m2) * L)) w7.heap.size] (by kernel_rfl) (by kernel_rfl) ?ob41 ?done41
          case ob41 =>
            refine And.intro (ob_load rfl (wt_none rfl) (ev_far rfl rfl) (fun w2 hb => run_loadAll Tryz.underlying26 rfl (by kernel_rfl) (B11.drew.below hb)) (fun _ _ => rfl)) ?_
            refine And.intro (ob_move rfl (wt_none rfl) (ev_far rfl rfl) (fun _ _ h => h)) ?_
            refine And.intro (ob_move rfl (wt_none rfl) (ev_far rfl rfl) (fun _ _ h => h)) ?_
            refine And.intro (ob_call2 rfl Tryz.func82 (by kernel_rfl) (wt_none rfl) (ev_dep (j := 1) (by kernel_rfl) rfl rfl) (ev_dep (j := 2) (by kernel_rfl) rfl rfl) (fun w2 u0 u1 hb h0 h1 => by obtain rfl := h0; obtain rfl := h1; exact (times_any _ m1 _ m2 _ (n6.drew.below hb) (n8.drew.below hb) (Nat.le_trans la (by decide)) (Nat.le_trans lb (by decide))).mono fun e w3 h => RetS.pd h hb.size)) ?_
            refine And.intro (ob_move rfl (wt_none rfl) (ev_far rfl rfl) (fun _ _ h => h)) ?_
            refine And.intro (ob_call2 rfl Tryz.func82 (by kernel_rfl) (wt_none rfl) (ev_dep (j := 3) (by kernel_rfl) rfl rfl) (ev_dep (j := 4) (by kernel_rfl) rfl rfl) (fun w2 u0 u1 hb h0 h1 => by obtain rfl := h1; exact (times_any _ (m1 * m2) _ L _ h0.1 (n49.drew.below hb) (Nat.le_trans lab (by decide)) (Nat.le_trans lL (by decide))).mono fun e w3 h => RetS.pd h hb.size)) ?_
            refine And.intro (ob_build2b rfl (wt_none rfl) (ev_dep (j := 0) (by kernel_rfl) rfl rfl) (ev_dep (j := 5) (by kernel_rfl) rfl rfl) (fun w2 u v hb hu hv => by obtain rfl := hu; obtain ⟨A7, c7, rfl, _⟩ := id hv.1; exact ⟨.agg #[.bool (ngB U), .slice A11 (digs 4294967296 (U).natAbs).length c11, .slice A7 (digs 4294967296 ((m1 * m2) * L)).length c7], by kernel_rfl, ⟨A7, c7, rfl, hv.1, hv.2⟩⟩)) ?_
            trivial
          case done41 =>
            refine fun w8 hb8 v0 h0 v1 h1 v2 h2 v3 h3 v4 h4 v5 h5 v6 h6 b hbf => ?_
            obtain rfl := h0; obtain rfl := h1; obtain rfl := h2; obtain rfl := h4
            obtain ⟨q3, f3⟩ := h3
            obtain ⟨q5, f5⟩ := h5
            have q6 := h6; have s9_ := sB
            simp only [Act.put, List.setIfInBounds_toArray, List.set_cons_zero, List.set_cons_succ] at hbf
            subst hbf
            replace B0 := B0.below hb8
            replace k0s := k0s.below hb8
            replace k0d := k0d.below hb8
            replace k0z := k0z.below hb8
            replace k0 := k0.below hb8
            replace B1 := B1.below hb8
            replace k1s := k1s.below hb8
            replace k1d := k1d.below hb8
            replace k1z := k1z.below hb8
            replace k1 := k1.below hb8
            replace BR0 := BR0.below hb8
            replace B10 := B10.below hb8
            replace k10s := k10s.below hb8
            replace k10 := k10.below hb8
            replace B11 := B11.below hb8
            replace k11s := k11s.below hb8
            replace k11 := k11.below hb8
            replace kg := kg.below hb8
            replace n6 := n6.below hb8
            replace n8 := n8.below hb8
            replace n49 := n49.below hb8
            replace bb := bb.trans (hb8.mono bb.size)
            have hsz8 := bb.size
            have s_3 := sB
            have s_5 := sB
            obtain ⟨A9, c9, rfl, q9, f9⟩ := q6
            refine any_store (i := 7) (by kernel_rfl) rfl rfl rfl rfl rfl rfl (cells := [.bool (ngB U), .slice A11 (digs 4294967296 (U).natAbs).length c11, .slice A9 (digs 4294967296 ((m1 * m2) * L)).length c9]) rfl BR0 rfl (by kernel_rfl) (one3 rfl rfl rfl) fun w9 hg9 B9 => ?_
            have k9 := off k11s BR0 no_ints3 hg9
            have d9 := off q9 BR0 no_ints3 hg9
            have bb9 := bb.trans ((Below.refl _ _).grown hg9 bb.size (fun g hg => by injection hg with hg; omega))
            obtain ⟨C0, C1, C2, _, _, _⟩ := three B9
            refine any_done (by kernel_rfl) ?_
            go_wp2
            rw [HQ0.out]
            exact bodyPost_ret (v := .agg #[.bool (ngB U), .slice A11 (digs 4294967296 (U).natAbs).length c11, .slice A9 (digs 4294967296 ((m1 * m2) * L)).length c9]) (by simp [results, Tryz.results46, go_sem, C0, C1, C2]) rfl ⟨_, rfl, isQ_mk k9 d9 (by rw [HQN.out]) (by rw [HQN.out]) HQD.out, freshQ_mk f11_ (f9.mono s9_), bb9⟩
set_option maxHeartbeats 1600000 in
set_option maxRecDepth 100000 in
theorem sub8_any (a0 : Value) (x : Rat) (a1 : Value) (y : Rat) (w : World) (h0 : IsQ w a0 x) (h1 : IsQ w a1 y) (hl : lenQ x 1000) (hl2 : lenQ y 1000) :
    Calls Tryz.prog 53 #[a0, a1] w (RetQ (x - y) w) := by
  obtain ⟨u0, t0, rfl, s0, r0⟩ := h0
  obtain ⟨A0, c0, rfl, _⟩ := id s0
  obtain ⟨D0, e0, rfl, _⟩ := id r0
  obtain ⟨u1, t1, rfl, s1, r1⟩ := h1
  obtain ⟨A1, c1, rfl, _⟩ := id s1
  obtain ⟨D1, e1, rfl, _⟩ := id r1
  have HS : Hid (x + -y = x - y) := (Rat.sub_eq_add_neg x y).symm
  go_enter Tryz.func53, Tryz.ntmps53
  go_upto_region 1 with (fail)
  obtain ⟨wx, hwx, bb, B0, B1, BR0, hsz⟩ := vars3 w 28 28 28 #[.bool (ngB (x).num), .slice A0 (digs 4294967296 (x).num.natAbs).length c0, .slice D0 (digs 4294967296 (x).den).length e0] #[.bool (ngB (y).num), .slice A1 (digs 4294967296 (y).num.natAbs).length c1, .slice D1 (digs 4294967296 (y).den).length e1] #[.bool false, .slice none 0 0, .slice none 0 0]
  rw [hwx]
  clear hwx
  have k0s := s0.below bb
  have k0d := r0.below bb
  have k0z : IsZ wx (.agg #[.bool (ngB (x).num), .slice A0 (digs 4294967296 (x).num.natAbs).length c0]) (x).num := ⟨_, rfl, k0s⟩
  have k0 : IsQ wx (.agg #[.bool (ngB (x).num), .slice A0 (digs 4294967296 (x).num.natAbs).length c0, .slice D0 (digs 4294967296 (x).den).length e0]) (x) := ⟨_, _, rfl, k0s, k0d⟩
  have k1s := s1.below bb
  have k1d := r1.below bb
  have k1z : IsZ wx (.agg #[.bool (ngB (y).num), .slice A1 (digs 4294967296 (y).num.natAbs).length c1]) (y).num := ⟨_, rfl, k1s⟩
  have k1 : IsQ wx (.agg #[.bool (ngB (y).num), .slice A1 (digs 4294967296 (y).num.natAbs).length c1, .slice D1 (digs 4294967296 (y).den).length e1]) (y) := ⟨_, _, rfl, k1s, k1d⟩
  have hsz0 := bb.size
  have sB := bb.size
  refine flow 4 [Pd.eq (.agg #[.bool (ngB (x).num), .slice A0 (digs 4294967296 (x).num.natAbs).length c0, .slice D0 (digs 4294967296 (x).den).length e0]), Pd.eq (.agg #[.bool (ngB (y).num), .slice A1 (digs 4294967296 (y).num.natAbs).length c1, .slice D1 (digs 4294967296 (y).den).length e1]), pq (-y) wx.heap.size, pq (x - y) wx.heap.size] (by kernel_rfl) (by kernel_rfl) ?ob42 ?done42
  case ob42 =>
    refine And.intro (ob_load rfl (wt_none rfl) (ev_far rfl rfl) (fun w2 hb => run_loadAll Tryz.underlying28 rfl (by kernel_rfl) (B0.drew.below hb)) (fun _ _ => rfl)) ?_
    refine And.intro (ob_load rfl (wt_none rfl) (ev_far rfl rfl) (fun w2 hb => run_loadAll Tryz.underlying28 rfl (by kernel_rfl) (B1.drew.below hb)) (fun _ _ => rfl)) ?_
    refine And.intro (ob_call1 rfl Tryz.func87 (by kernel_rfl) (wt_none rfl) (ev_dep (j := 1) (by kernel_rfl) rfl rfl) (fun w2 u0 hb h0 => by obtain rfl := h0; exact (neg8_any _ y _ (k1.drew.below hb) (hl2.mono (by decide))).mono fun e w3 h => RetQ.pd h hb.size)) ?_
    refine And.intro (ob_call2 rfl Tryz.func46 (by kernel_rfl) (wt_none rfl) (ev_dep (j := 0) (by kernel_rfl) rfl rfl) (ev_dep (j := 2) (by kernel_rfl) rfl rfl) (fun w2 u0 u1 hb h0 h1 => by obtain rfl := h0; exact (HS.out ▸ add8_any _ x _ (-y) _ (k0.drew.below hb) h1.1 hl (lenQ_neg hl2)).mono fun e w3 h => RetQ.pd h hb.size)) ?_
    trivial
  case done42 =>
    refine fun w11 hb11 v0 h0 v1 h1 v2 h2 v3 h3 b hbf => ?_
    obtain rfl := h0; obtain rfl := h1
    obtain ⟨q2, f2⟩ := h2
    obtain ⟨q3, f3⟩ := h3
    simp only [Act.put, List.setIfInBounds_toArray, List.set_cons_zero, List.set_cons_succ] at hbf
    subst hbf
    replace B0 := B0.below hb11
    replace k0s := k0s.below hb11
    replace k0d := k0d.below hb11
    replace k0z := k0z.below hb11
    replace k0 := k0.below hb11
    replace B1 := B1.below hb11
    replace k1s := k1s.below hb11
    replace k1d := k1d.below hb11
    replace k1z := k1z.below hb11
    replace k1 := k1.below hb11
    replace BR0 := BR0.below hb11
    replace bb := bb.trans (hb11.mono bb.size)
    have hsz11 := bb.size
    have s_2 := sB
    have s_3 := sB
    obtain ⟨u3, t3, rfl, q3, d3⟩ := q3
    obtain ⟨A9, c9, rfl, _⟩ := id q3
    obtain ⟨D9, e9, rfl, _⟩ := id d3
    refine any_store (i := 4) (by kernel_rfl) rfl rfl rfl rfl rfl rfl (cells := [.bool (ngB (x - y).num), .slice A9 (digs 4294967296 (x - y).num.natAbs).length c9, .slice D9 (digs 4294967296 (x - y).den).length e9]) rfl BR0 rfl (by kernel_rfl) (one3 rfl rfl rfl) fun w9 hg9 B9 => ?_
    have k9 := off q3 BR0 no_ints3 hg9
    have d9 := off d3 BR0 no_ints3 hg9
    have f9 := f3.mono (show w.heap.size ≤ _ from s_3)
    have bb9 := bb.trans ((Below.refl _ _).grown hg9 bb.size (fun g hg => by injection hg with hg; omega))
    obtain ⟨C0, C1, C2, _, _, _⟩ := three B9
    refine any_done (by kernel_rfl) ?_
    go_wp2
    exact bodyPost_ret (v := .agg #[.bool (ngB (x - y).num), .slice A9 (digs 4294967296 (x - y).num.natAbs).length c9, .slice D9 (digs 4294967296 (x - y).den).length e9]) (by simp [results, Tryz.results53, go_sem, C0, C1, C2]) rfl ⟨_, rfl, ⟨_, _, rfl, k9, d9⟩, f9, bb9⟩
set_option maxHeartbeats 1600000 in
set_option maxRecDepth 100000 in
theorem cmp8_any (a0 a1 : Value) (x y : Rat) (t : Int) (w : World) (h0 : IsQ w a0 x) (h1 : IsQ w a1 y) (hl : lenQ x 100000) (hl2 : lenQ y 100000) (ht : t = ordq x y) :
    Calls Tryz.prog 34 #[a0, a1] w (RetV (.int .i64 t) w) := by
  obtain ⟨u0, t0, rfl, s0, r0⟩ := h0
  obtain ⟨A0, c0, rfl, _⟩ := id s0
  obtain ⟨D0, e0, rfl, _⟩ := id r0
  obtain ⟨u1, t1, rfl, s1, r1⟩ := h1
  obtain ⟨A1, c1, rfl, _⟩ := id s1
  obtain ⟨D1, e1, rfl, _⟩ := id r1
  have HT : Hid (t = ordz (x.num * ((y.den : Nat) : Int)) (y.num * ((x.den : Nat) : Int))) := by show _ = _; rw [ht, ordq_cross]
  clear ht
  have lx1 := hl.1
  have ly1 := hl2.1
  have lx2 : lenZ ((x.den : Nat) : Int) ≤ 100000 := by rw [lenD]; exact hl.2
  have ly2 : lenZ ((y.den : Nat) : Int) ≤ 100000 := by rw [lenD]; exact hl2.2
  go_enter Tryz.func34, Tryz.ntmps34
  go_upto_region 1 with (fail)
  obtain ⟨wx, hwx, bb, B0, B1, hsz⟩ := vars2 w 28 28 #[.bool (ngB (x).num), .slice A0 (digs 4294967296 (x).num.natAbs).length c0, .slice D0 (digs 4294967296 (x).den).length e0] #[.bool (ngB (y).num), .slice A1 (digs 4294967296 (y).num.natAbs).length c1, .slice D1 (digs 4294967296 (y).den).length e1]
  rw [hwx]
  clear hwx
  have k0s := s0.below bb
  have k0d := r0.below bb
  have k0z : IsZ wx (.agg #[.bool (ngB (x).num), .slice A0 (digs 4294967296 (x).num.natAbs).length c0]) (x).num := ⟨_, rfl, k0s⟩
  have k0 : IsQ wx (.agg #[.bool (ngB (x).num), .slice A0 (digs 4294967296 (x).num.natAbs).length c0, .slice D0 (digs 4294967296 (x).den).length e0]) (x) := ⟨_, _, rfl, k0s, k0d⟩
  have k1s := s1.below bb
  have k1d := r1.below bb
  have k1z : IsZ wx (.agg #[.bool (ngB (y).num), .slice A1 (digs 4294967296 (y).num.natAbs).length c1]) (y).num := ⟨_, rfl, k1s⟩
  have k1 : IsQ wx (.agg #[.bool (ngB (y).num), .slice A1 (digs 4294967296 (y).num.natAbs).length c1, .slice D1 (digs 4294967296 (y).den).length e1]) (y) := ⟨_, _, rfl, k1s, k1d⟩
  have hsz0 := bb.size
  have sB := bb.size
  refine flow 14 [Pd.eq (.pointer (some ⟨w.heap.size, 0, none⟩)), Pd.eq (.agg #[.bool (ngB (x).num), .slice A0 (digs 4294967296 (x).num.natAbs).length c0]), Pd.eq (.pointer (some ⟨w.heap.size + 1, 2, none⟩)), Pd.eq (.slice D1 (digs 4294967296 (y).den).length e1), pi ((((y).den : Nat) : Int)), pi ((x.num * ((y.den : Nat) : Int))), Pd.eq (.pointer (some ⟨w.heap.size + 1, 0, none⟩)), Pd.eq (.agg #[.bool (ngB (y).num), .slice A1 (digs 4294967296 (y).num.natAbs).length c1]), Pd.eq (.pointer (some ⟨w.heap.size, 2, none⟩)), Pd.eq (.slice D0 (digs 4294967296 (x).den).length e0), pi ((((x).den : Nat) : Int)), pi ((y.num * ((x.den : Nat) : Int))), Pd.eq (.int .i64 t), Pd.eq (.int .i64 t)] (by kernel_rfl) (by kernel_rfl) ?ob43 ?done43
  case ob43 =>
    refine And.intro (ob_fieldAddr rfl (wt_none rfl) (ev_far rfl rfl) (fun _ => by kernel_rfl) (fun _ => rfl)) ?_
    refine And.intro (ob_load rfl (wt_none rfl) (ev_dep (j := 0) (by kernel_rfl) rfl rfl) (fun w2 hb => run_loadPart Tryz.underlying26 rfl (by kernel_rfl) (B0.drew.below hb) rfl) (fun _ _ => rfl)) ?_
    refine And.intro (ob_fieldAddr rfl (wt_none rfl) (ev_far rfl rfl) (fun _ => by kernel_rfl) (fun _ => rfl)) ?_
    refine And.intro (ob_load rfl (wt_none rfl) (ev_dep (j := 2) (by kernel_rfl) rfl rfl) (fun w2 hb => run_load1 Tryz.underlying24 rfl ((B1.drew.below hb).cell 2)) (fun _ _ => rfl)) ?_
    refine And.intro (ob_call1 rfl Tryz.func70 (by kernel_rfl) (wt_none rfl) (ev_dep (j := 3) (by kernel_rfl) rfl rfl) (fun w2 u0 hb h0 => by obtain rfl := h0; exact unsigned_pd _ ((y).den) _ (k1d.drew.below hb))) ?_
    refine And.intro (ob_call2 rfl Tryz.func69 (by kernel_rfl) (wt_none rfl) (ev_dep (j := 1) (by kernel_rfl) rfl rfl) (ev_dep (j := 4) (by kernel_rfl) rfl rfl) (fun w2 u0 u1 hb h0 h1 => by obtain rfl := h0; exact (zmul_any _ _ _ _ (x.num * ((y.den : Nat) : Int)) _ (k0z.drew.below hb) h1 lx1 ly2 rfl).mono fun e w3 h => RetZ.pi h)) ?_
    refine And.intro (ob_fieldAddr rfl (wt_none rfl) (ev_far rfl rfl) (fun _ => by kernel_rfl) (fun _ => rfl)) ?_
    refine And.intro (ob_load rfl (wt_none rfl) (ev_dep (j := 6) (by kernel_rfl) rfl rfl) (fun w2 hb => run_loadPart Tryz.underlying26 rfl (by kernel_rfl) (B1.drew.below hb) rfl) (fun _ _ => rfl)) ?_
    refine And.intro (ob_fieldAddr rfl (wt_none rfl) (ev_far rfl rfl) (fun _ => by kernel_rfl) (fun _ => rfl)) ?_
    refine And.intro (ob_load rfl (wt_none rfl) (ev_dep (j := 8) (by kernel_rfl) rfl rfl) (fun w2 hb => run_load1 Tryz.underlying24 rfl ((B0.drew.below hb).cell 2)) (fun _ _ => rfl)) ?_
    refine And.intro (ob_call1 rfl Tryz.func70 (by kernel_rfl) (wt_none rfl) (ev_dep (j := 9) (by kernel_rfl) rfl rfl) (fun w2 u0 hb h0 => by obtain rfl := h0; exact unsigned_pd _ ((x).den) _ (k0d.drew.below hb))) ?_
    refine And.intro (ob_call2 rfl Tryz.func69 (by kernel_rfl) (wt_none rfl) (ev_dep (j := 7) (by kernel_rfl) rfl rfl) (ev_dep (j := 10) (by kernel_rfl) rfl rfl) (fun w2 u0 u1 hb h0 h1 => by obtain rfl := h0; exact (zmul_any _ _ _ _ (y.num * ((x.den : Nat) : Int)) _ (k1z.drew.below hb) h1 ly1 lx2 rfl).mono fun e w3 h => RetZ.pi h)) ?_
    refine And.intro (ob_call2 rfl Tryz.func68 (by kernel_rfl) (wt_none rfl) (ev_dep (j := 5) (by kernel_rfl) rfl rfl) (ev_dep (j := 11) (by kernel_rfl) rfl rfl) (fun w2 u0 u1 hb h0 h1 => by exact (zcmp_any _ _ _ _ t _ h0 h1 HT.out).mono fun e w3 h => RetV.pd h)) ?_
    refine And.intro (ob_assign rfl (wt_none rfl) (ev_dep (j := 12) (by kernel_rfl) rfl rfl) (fun _ _ h => h)) ?_
    trivial
  case done43 =>
    refine fun w1 hb1 v0 h0 v1 h1 v2 h2 v3 h3 v4 h4 v5 h5 v6 h6 v7 h7 v8 h8 v9 h9 v10 h10 v11 h11 v12 h12 v13 h13 b hbf => ?_
    obtain rfl := h0; obtain rfl := h1; obtain rfl := h2; obtain rfl := h3; obtain rfl := h6; obtain rfl := h7; obtain rfl := h8; obtain rfl := h9; obtain rfl := h12; obtain rfl := h13
    have q4 := h4
    have q5 := h5
    have q10 := h10
    have q11 := h11
    simp only [Act.put, List.setIfInBounds_toArray, List.set_cons_zero, List.set_cons_succ] at hbf
    subst hbf
    replace B0 := B0.below hb1
    replace k0s := k0s.below hb1
    replace k0d := k0d.below hb1
    replace k0z := k0z.below hb1
    replace k0 := k0.below hb1
    replace B1 := B1.below hb1
    replace k1s := k1s.below hb1
    replace k1d := k1d.below hb1
    replace k1z := k1z.below hb1
    replace k1 := k1.below hb1
    replace bb := bb.trans (hb1.mono bb.size)
    have hsz1 := bb.size
    refine any_done (by kernel_rfl) ?_
    go_wp2
    go_ret
    exact ⟨rfl, bb⟩
theorem fcmp_any (a0 a1 : Value) (x y : Rat) (t : Int) (w : World) (h0 : IsQ w a0 x) (h1 : IsQ w a1 y) (hl : lenQ x 1000) (hl2 : lenQ y 1000) (ht : t = ordq x y) : Calls Tryz.prog 34 #[a0, a1] w (RetV (.int .i64 t) w) := cmp8_any a0 a1 x y t w h0 h1 (hl.mono (by decide)) (hl2.mono (by decide)) ht
set_option maxHeartbeats 1600000 in
set_option maxRecDepth 100000 in
theorem of8_any (n : Int) (w : World) (h1 : -9223372036854775808 ≤ n) (h2 : n ≤ 9223372036854775807) :
    Calls Tryz.prog 45 #[.int .i64 n] w (RetQ (n : Rat) w) := by
  obtain ⟨Q, hQ⟩ : ∃ Q, Q = (n : Rat) := ⟨_, rfl⟩
  have HQ0 : Hid ((n : Rat) = Q) := hQ.symm
  have HQN : Hid (Q.num = n) := by show _ = _; rw [hQ]; exact Rat.num_intCast n
  have HQD : Hid (Q.den = 1) := by show _ = _; rw [hQ]; exact Rat.den_intCast n
  clear hQ
  go_enter Tryz.func45, Tryz.ntmps45
  go_upto_region 1 with (fail)
  obtain ⟨wx, hwx, bb, BR0, hsz⟩ := vars1 w 28 #[.bool false, .slice none 0 0, .slice none 0 0]
  rw [hwx]
  clear hwx
  have hsz0 := bb.size
  have sB := bb.size
  refine flowp 4 [Pd.eq (.int .i64 n), pz ((Q).num) wx.heap.size, ps .u64 (digs 4294967296 (Q).den) wx.heap.size, pq (Q) wx.heap.size] (by kernel_rfl) ?ob19 ?done19
  case ob19 =>
    refine And.intro (ob_move rfl (wt_none rfl) (ev_far rfl rfl) (fun _ _ h => h)) ?_
    refine And.intro (ob_call1 rfl Tryz.func76 (by kernel_rfl) (wt_none rfl) (ev_dep (j := 0) (by kernel_rfl) rfl rfl) (fun w2 u0 hb h0 => by obtain rfl := h0; exact (zof_any n _ h1 h2).mono fun e w3 h => RetZ.pd (RetZ.to h HQN.out.symm) hb.size)) ?_
    refine And.intro (ob_call1 rfl Tryz.func77 (by kernel_rfl) (wt_none rfl) (ev_const _) (fun w2 u0 hb h0 => by obtain rfl := h0; exact (of_any 1 1 _ rfl (by omega)).mono fun e w3 h => RetS.pd (RetS.to h (congrArg (digs 4294967296) HQD.out.symm)) hb.size)) ?_
    refine And.intro (ob_build2b rfl (wt_none rfl) (ev_dep (j := 1) (by kernel_rfl) rfl rfl) (ev_dep (j := 2) (by kernel_rfl) rfl rfl) (fun w2 u v hb hu hv => by obtain ⟨u7, rfl, hu7⟩ := hu.1; obtain ⟨A7, c7, rfl, _⟩ := id hu7; obtain ⟨A8, c8, rfl, _⟩ := id hv.1; exact ⟨.agg #[.bool (ngB (Q).num), .slice A7 (digs 4294967296 (Q).num.natAbs).length c7, .slice A8 (digs 4294967296 (Q).den).length c8], by kernel_rfl, ⟨⟨_, _, rfl, hu7, hv.1⟩, freshQ_mk (hu.2 _ _ rfl) hv.2⟩⟩)) ?_
    trivial
  case done19 =>
    refine fun w1 hb1 v0 h0 v1 h1 v2 h2 v3 h3 b hbf => ?_
    obtain rfl := h0
    obtain ⟨q1, f1⟩ := h1
    obtain ⟨q2, f2⟩ := h2
    obtain ⟨q3, f3⟩ := h3
    simp only [Act.put, List.setIfInBounds_toArray, List.set_cons_zero, List.set_cons_succ] at hbf
    subst hbf
    replace BR0 := BR0.below hb1
    replace bb := bb.trans (hb1.mono bb.size)
    have hsz1 := bb.size
    have s_1 := sB
    have s_2 := sB
    have s_3 := sB
    obtain ⟨u3, t3, rfl, q3, d3⟩ := q3
    obtain ⟨A9, c9, rfl, _⟩ := id q3
    obtain ⟨D9, e9, rfl, _⟩ := id d3
    refine ops_store (i := 4) rfl rfl rfl rfl rfl rfl (cells := [.bool (ngB (Q).num), .slice A9 (digs 4294967296 (Q).num.natAbs).length c9, .slice D9 (digs 4294967296 (Q).den).length e9]) rfl BR0 rfl (by kernel_rfl) (one3 rfl rfl rfl) fun w9 hg9 B9 => ?_
    have k9 := off q3 BR0 no_ints3 hg9
    have d9 := off d3 BR0 no_ints3 hg9
    have f9 := f3.mono (show w.heap.size ≤ _ from s_3)
    have bb9 := bb.trans ((Below.refl _ _).grown hg9 bb.size (fun g hg => by injection hg with hg; omega))
    obtain ⟨C0, C1, C2, _, _, _⟩ := three B9
    refine ops_done ?_
    go_wp2
    rw [HQ0.out]
    exact bodyPost_ret (v := .agg #[.bool (ngB (Q).num), .slice A9 (digs 4294967296 (Q).num.natAbs).length c9, .slice D9 (digs 4294967296 (Q).den).length e9]) (by simp [results, Tryz.results45, go_sem, C0, C1, C2]) rfl ⟨_, rfl, ⟨_, _, rfl, k9, d9⟩, f9, bb9⟩
theorem limbs_any (v u : Value) (l m : List Nat) (b : Bool) (w : World) (h : IsS w .u64 v l) (h' : IsS w .u64 u m) (hu : Lt 18446744073709551616 l) (hu' : Lt 18446744073709551616 m) (hb_ : b = sameB l m) :
    Calls Tryz.prog 108 #[v, u] w (RetV (.bool b) w) := by
  have HB := Lib.hid hb_
  clear hb_
  obtain ⟨A, c, rfl, hc, hm, hr⟩ := h
  obtain ⟨A', c', rfl, hc', hmm, hr'⟩ := h'
  unfold maxLen at hm hmm
  by_cases hne : l.length = m.length
  · have hb1 : ((l.length : Int) != (m.length : Int)) = false := by rw [hne]; simp
    have HL := Lib.hid hne
    have hl1 : l.length ≤ m.length := by omega
    have hl2 : m.length ≤ l.length := by omega
    clear hne
    go_enter Tryz.func108, Tryz.ntmps108
    go_wp2
    go_loopw [13] (fun vi wr => ∃ k : Nat, k ≤ l.length ∧ Hid (l.take k = m.take k) ∧ Below w.heap.size w wr ∧ vi = .int .i64 (k : Int)) (fun vi _ => l.length - (intOf vi).toNat)
    case atStart => exact ⟨0, by omega, by show _ = _; simp, Below.refl _ _, rfl⟩
    case round =>
      obtain ⟨k, hk, HT, hb, rfl⟩ := hrel
      by_cases hlt : k < l.length
      · obtain ⟨ad, d, rfl, hd, hcell⟩ := (hr.below hb).at_ hlt
        obtain ⟨ad', e, rfl, he, hcell'⟩ := (hr'.below hb).at_ (i := k) (by omega)
        by_cases hde : d = e
        · subst hde
          have HN : Hid (l.take (k + 1) = m.take (k + 1)) := by show _ = _; rw [take_step hd, take_step he, HT.out]
          have hz : ((d : Int) != (d : Int)) = false := by simp
          clear hd he
          go_wp2
          go_quiet (fail)
          go_wp2
          go_roundw
          case rel => exact ⟨k + 1, by omega, HN, below_drewN hb _, by go_num⟩
          case measure => simp [intOf]; omega
        · have HN : Hid (sameB l m = false) := sameB_at hd he hde
          have hz : ((d : Int) != (e : Int)) = true := by rw [bne_iff_ne]; omega
          clear hd he hde
          go_wp2
          go_quiet (fail)
          go_wp2
          go_ret
          exact ⟨by rw [HB.out, HN.out]; rfl, below_drewN hb _⟩
      · obtain rfl : k = l.length := by omega
        have HN : Hid (sameB l m = true) := by
          have := HT.out
          rw [List.take_length, List.take_of_length_le hl2] at this
          rw [this]; exact sameB_refl m
        go_wp2
        go_ret
        exact ⟨by rw [HB.out, HN.out]; rfl, hb⟩
  · have hb1 : ((l.length : Int) != (m.length : Int)) = true := by rw [bne_iff_ne]; omega
    have HN : Hid (sameB l m = false) := sameB_of_len hne
    clear hne
    go_enter Tryz.func108, Tryz.ntmps108
    go_wp2
    go_ret
    exact ⟨by rw [HB.out, HN.out]; rfl, Below.refl _ _⟩
theorem limbs_num (v u : Value) (x y : Nat) (b : Bool) (w : World) (h : IsS w .u64 v (digs 4294967296 x)) (h' : IsS w .u64 u (digs 4294967296 y)) (hb : b = decide (x = y)) :
    Calls Tryz.prog 108 #[v, u] w (RetV (.bool b) w) :=
  limbs_any v u _ _ b w h h' (digs_lt_u x) (digs_lt_u y) (by rw [hb, sameB_digs])
set_option maxHeartbeats 1600000 in
set_option maxRecDepth 100000 in
theorem same8_any (a0 a1 : Value) (x y : Rat) (b : Bool) (w : World) (h0 : IsQ w a0 x) (h1 : IsQ w a1 y) (hb : b = decide (x = y)) :
    Calls Tryz.prog 85 #[a0, a1] w (RetV (.bool b) w) := by
  by_cases hs : ngB x.num = ngB y.num
  · by_cases hn : x.num.natAbs = y.num.natAbs
    · obtain ⟨u0, t0, rfl, s0, r0⟩ := h0
      obtain ⟨A0, c0, rfl, _⟩ := id s0
      obtain ⟨D0, e0, rfl, _⟩ := id r0
      obtain ⟨u1, t1, rfl, s1, r1⟩ := h1
      obtain ⟨A1, c1, rfl, _⟩ := id s1
      obtain ⟨D1, e1, rfl, _⟩ := id r1
      have HE : Hid ((ngB x.num == ngB y.num) = true) := by show _ = _; rw [hs]; exact beq_self_eq_true _
      have HB : Hid (b = decide (x.den = y.den)) := by show _ = _; rw [hb, decide_eq_decide, eq_parts]; exact ⟨fun e => e.2, fun e => ⟨by rw [← sg_self x.num, ← sg_self y.num, hs, hn], e⟩⟩
      clear hb hs
      have HN : Hid (true = decide (x.num.natAbs = y.num.natAbs)) := (decide_eq_true hn).symm
      clear hn
      go_enter Tryz.func85, Tryz.ntmps85
      go_upto_region 1 with (fail)
      obtain ⟨wx, hwx, bb, B0, B1, hsz⟩ := vars2 w 28 28 #[.bool (ngB (x).num), .slice A0 (digs 4294967296 (x).num.natAbs).length c0, .slice D0 (digs 4294967296 (x).den).length e0] #[.bool (ngB (y).num), .slice A1 (digs 4294967296 (y).num.natAbs).length c1, .slice D1 (digs 4294967296 (y).den).length e1]
      rw [hwx]
      clear hwx
      have k0s := s0.below bb
      have k0d := r0.below bb
      have k0z : IsZ wx (.agg #[.bool (ngB (x).num), .slice A0 (digs 4294967296 (x).num.natAbs).length c0]) (x).num := ⟨_, rfl, k0s⟩
      have k0 : IsQ wx (.agg #[.bool (ngB (x).num), .slice A0 (digs 4294967296 (x).num.natAbs).length c0, .slice D0 (digs 4294967296 (x).den).length e0]) (x) := ⟨_, _, rfl, k0s, k0d⟩
      have k1s := s1.below bb
      have k1d := r1.below bb
      have k1z : IsZ wx (.agg #[.bool (ngB (y).num), .slice A1 (digs 4294967296 (y).num.natAbs).length c1]) (y).num := ⟨_, rfl, k1s⟩
      have k1 : IsQ wx (.agg #[.bool (ngB (y).num), .slice A1 (digs 4294967296 (y).num.natAbs).length c1, .slice D1 (digs 4294967296 (y).den).length e1]) (y) := ⟨_, _, rfl, k1s, k1d⟩
      have hsz0 := bb.size
      have sB := bb.size
      refine flowp 24 [Pd.eq (.pointer (some ⟨w.heap.size, 0, none⟩)), Pd.eq (.pointer (some ⟨w.heap.size, 0, none⟩)), Pd.eq (.bool (ngB (x).num)), Pd.eq (.pointer (some ⟨w.heap.size + 1, 0, none⟩)), Pd.eq (.pointer (some ⟨w.heap.size + 1, 0, none⟩)), Pd.eq (.bool (ngB (y).num)), Pd.eq (.bool true), Pd.eq (.bool true), Pd.eq (.pointer (some ⟨w.heap.size, 0, none⟩)), Pd.eq (.pointer (some ⟨w.heap.size, 1, none⟩)), Pd.eq (.slice A0 (digs 4294967296 (x).num.natAbs).length c0), Pd.eq (.pointer (some ⟨w.heap.size + 1, 0, none⟩)), Pd.eq (.pointer (some ⟨w.heap.size + 1, 1, none⟩)), Pd.eq (.slice A1 (digs 4294967296 (y).num.natAbs).length c1), Pd.eq (.bool true), Pd.eq (.bool true), Pd.eq (.bool true), Pd.eq (.pointer (some ⟨w.heap.size, 2, none⟩)), Pd.eq (.slice D0 (digs 4294967296 (x).den).length e0), Pd.eq (.pointer (some ⟨w.heap.size + 1, 2, none⟩)), Pd.eq (.slice D1 (digs 4294967296 (y).den).length e1), Pd.eq (.bool b), Pd.eq (.bool b), Pd.eq (.bool b)] (by kernel_rfl) ?ob46 ?done46
      case ob46 =>
        refine And.intro (ob_fieldAddr rfl (wt_none rfl) (ev_far rfl rfl) (fun _ => by kernel_rfl) (fun _ => rfl)) ?_
        refine And.intro (ob_fieldAddr rfl (wt_none rfl) (ev_dep (j := 0) (by kernel_rfl) rfl rfl) (fun _ => by kernel_rfl) (fun _ => rfl)) ?_
        refine And.intro (ob_load rfl (wt_none rfl) (ev_dep (j := 1) (by kernel_rfl) rfl rfl) (fun w2 hb => run_load1 Tryz.underlying4 rfl ((B0.below hb).cell 0)) (fun _ _ => rfl)) ?_
        refine And.intro (ob_fieldAddr rfl (wt_none rfl) (ev_far rfl rfl) (fun _ => by kernel_rfl) (fun _ => rfl)) ?_
        refine And.intro (ob_fieldAddr rfl (wt_none rfl) (ev_dep (j := 3) (by kernel_rfl) rfl rfl) (fun _ => by kernel_rfl) (fun _ => rfl)) ?_
        refine And.intro (ob_load rfl (wt_none rfl) (ev_dep (j := 4) (by kernel_rfl) rfl rfl) (fun w2 hb => run_load1 Tryz.underlying4 rfl ((B1.below hb).cell 0)) (fun _ _ => rfl)) ?_
        refine And.intro (ob_bin rfl (wt_none rfl) (ev_dep (j := 2) (by kernel_rfl) rfl rfl) (ev_dep (j := 5) (by kernel_rfl) rfl rfl) (fun _ _ _ hx hy => ⟨.bool true, by rw [hx, hy]; exact (bin_eql_bool _ _ _ _ Tryz.underlying4 _).trans (by rw [HE.out]), rfl⟩)) ?_
        refine And.intro (ob_move rfl (wt_none rfl) (ev_dep (j := 6) (by kernel_rfl) rfl rfl) (fun _ _ h => h)) ?_
        refine And.intro (ob_fieldAddr rfl (wt_dep (c := true) (b := true) (g := 7) rfl (by kernel_rfl) rfl rfl rfl (by exact fun _ _ h => h)) (ev_far rfl rfl) (fun _ => by kernel_rfl) (fun _ => rfl)) ?_
        refine And.intro (ob_fieldAddr rfl (wt_dep (c := true) (b := true) (g := 7) rfl (by kernel_rfl) rfl rfl rfl (by exact fun _ _ h => h)) (ev_dep (j := 8) (by kernel_rfl) rfl rfl) (fun _ => by kernel_rfl) (fun _ => rfl)) ?_
        refine And.intro (ob_load rfl (wt_dep (c := true) (b := true) (g := 7) rfl (by kernel_rfl) rfl rfl rfl (by exact fun _ _ h => h)) (ev_dep (j := 9) (by kernel_rfl) rfl rfl) (fun w2 hb => run_load1 Tryz.underlying24 rfl ((B0.below hb).cell 1)) (fun _ _ => rfl)) ?_
        refine And.intro (ob_fieldAddr rfl (wt_dep (c := true) (b := true) (g := 7) rfl (by kernel_rfl) rfl rfl rfl (by exact fun _ _ h => h)) (ev_far rfl rfl) (fun _ => by kernel_rfl) (fun _ => rfl)) ?_
        refine And.intro (ob_fieldAddr rfl (wt_dep (c := true) (b := true) (g := 7) rfl (by kernel_rfl) rfl rfl rfl (by exact fun _ _ h => h)) (ev_dep (j := 11) (by kernel_rfl) rfl rfl) (fun _ => by kernel_rfl) (fun _ => rfl)) ?_
        refine And.intro (ob_load rfl (wt_dep (c := true) (b := true) (g := 7) rfl (by kernel_rfl) rfl rfl rfl (by exact fun _ _ h => h)) (ev_dep (j := 12) (by kernel_rfl) rfl rfl) (fun w2 hb => run_load1 Tryz.underlying24 rfl ((B1.below hb).cell 1)) (fun _ _ => rfl)) ?_
        refine And.intro (ob_call2 rfl Tryz.func108 (by kernel_rfl) (wt_dep (c := true) (b := true) (g := 7) rfl (by kernel_rfl) rfl rfl rfl (by exact fun _ _ h => h)) (ev_dep (j := 10) (by kernel_rfl) rfl rfl) (ev_dep (j := 13) (by kernel_rfl) rfl rfl) (fun w2 u0 u1 hb h0 h1 => by obtain rfl := h0; obtain rfl := h1; exact (limbs_num _ _ (x).num.natAbs (y).num.natAbs true _ (k0s.below hb) (k1s.below hb) HN.out).mono fun e w3 h => RetV.pd h)) ?_
        refine And.intro (ob_pick (b := true) rfl (wt_none rfl) (ev_dep (j := 7) (by kernel_rfl) rfl rfl) (ev_dep (j := 14) (by kernel_rfl) rfl rfl) (fun _ _ h => h)) ?_
        refine And.intro (ob_move rfl (wt_none rfl) (ev_dep (j := 15) (by kernel_rfl) rfl rfl) (fun _ _ h => h)) ?_
        refine And.intro (ob_fieldAddr rfl (wt_dep (c := true) (b := true) (g := 16) rfl (by kernel_rfl) rfl rfl rfl (by exact fun _ _ h => h)) (ev_far rfl rfl) (fun _ => by kernel_rfl) (fun _ => rfl)) ?_
        refine And.intro (ob_load rfl (wt_dep (c := true) (b := true) (g := 16) rfl (by kernel_rfl) rfl rfl rfl (by exact fun _ _ h => h)) (ev_dep (j := 17) (by kernel_rfl) rfl rfl) (fun w2 hb => run_load1 Tryz.underlying24 rfl ((B0.below hb).cell 2)) (fun _ _ => rfl)) ?_
        refine And.intro (ob_fieldAddr rfl (wt_dep (c := true) (b := true) (g := 16) rfl (by kernel_rfl) rfl rfl rfl (by exact fun _ _ h => h)) (ev_far rfl rfl) (fun _ => by kernel_rfl) (fun _ => rfl)) ?_
        refine And.intro (ob_load rfl (wt_dep (c := true) (b := true) (g := 16) rfl (by kernel_rfl) rfl rfl rfl (by exact fun _ _ h => h)) (ev_dep (j := 19) (by kernel_rfl) rfl rfl) (fun w2 hb => run_load1 Tryz.underlying24 rfl ((B1.below hb).cell 2)) (fun _ _ => rfl)) ?_
        refine And.intro (ob_call2 rfl Tryz.func108 (by kernel_rfl) (wt_dep (c := true) (b := true) (g := 16) rfl (by kernel_rfl) rfl rfl rfl (by exact fun _ _ h => h)) (ev_dep (j := 18) (by kernel_rfl) rfl rfl) (ev_dep (j := 20) (by kernel_rfl) rfl rfl) (fun w2 u0 u1 hb h0 h1 => by obtain rfl := h0; obtain rfl := h1; exact (limbs_num _ _ (x).den (y).den b _ (k0d.below hb) (k1d.below hb) HB.out).mono fun e w3 h => RetV.pd h)) ?_
        refine And.intro (ob_pick (b := true) rfl (wt_none rfl) (ev_dep (j := 16) (by kernel_rfl) rfl rfl) (ev_dep (j := 21) (by kernel_rfl) rfl rfl) (fun _ _ h => h)) ?_
        refine And.intro (ob_assign rfl (wt_none rfl) (ev_dep (j := 22) (by kernel_rfl) rfl rfl) (fun _ _ h => h)) ?_
        trivial
      case done46 =>
        refine fun w1 hb1 v0 h0 v1 h1 v2 h2 v3 h3 v4 h4 v5 h5 v6 h6 v7 h7 v8 h8 v9 h9 v10 h10 v11 h11 v12 h12 v13 h13 v14 h14 v15 h15 v16 h16 v17 h17 v18 h18 v19 h19 v20 h20 v21 h21 v22 h22 v23 h23 b hbf => ?_
        obtain rfl := h0; obtain rfl := h1; obtain rfl := h2; obtain rfl := h3; obtain rfl := h4; obtain rfl := h5; obtain rfl := h6; obtain rfl := h7; obtain rfl := h8; obtain rfl := h9; obtain rfl := h10; obtain rfl := h11; obtain rfl := h12; obtain rfl := h13; obtain rfl := h14; obtain rfl := h15; obtain rfl := h16; obtain rfl := h17; obtain rfl := h18; obtain rfl := h19; obtain rfl := h20; obtain rfl := h21; obtain rfl := h22; obtain rfl := h23
        simp only [Act.put, List.setIfInBounds_toArray, List.set_cons_zero, List.set_cons_succ] at hbf
        subst hbf
        replace B0 := B0.below hb1
        replace k0s := k0s.below hb1
        replace k0d := k0d.below hb1
        replace k0z := k0z.below hb1
        replace k0 := k0.below hb1
        replace B1 := B1.below hb1
        replace k1s := k1s.below hb1
        replace k1d := k1d.below hb1
        replace k1z := k1z.below hb1
        replace k1 := k1.below hb1
        replace bb := bb.trans (hb1.mono bb.size)
        have hsz1 := bb.size
        refine ops_done ?_
        go_wp2
        go_ret
        exact ⟨rfl, bb⟩
    · obtain ⟨u0, t0, rfl, s0, r0⟩ := h0
      obtain ⟨A0, c0, rfl, _⟩ := id s0
      obtain ⟨D0, e0, rfl, _⟩ := id r0
      obtain ⟨u1, t1, rfl, s1, r1⟩ := h1
      obtain ⟨A1, c1, rfl, _⟩ := id s1
      obtain ⟨D1, e1, rfl, _⟩ := id r1
      have HE : Hid ((ngB x.num == ngB y.num) = true) := by show _ = _; rw [hs]; exact beq_self_eq_true _
      obtain rfl : b = false := by rw [hb, decide_eq_false_iff_not]; exact fun e => hn (by rw [e])
      clear hb hs
      have HN : Hid (false = decide (x.num.natAbs = y.num.natAbs)) := (decide_eq_false hn).symm
      clear hn
      go_enter Tryz.func85, Tryz.ntmps85
      go_upto_region 1 with (fail)
      obtain ⟨wx, hwx, bb, B0, B1, hsz⟩ := vars2 w 28 28 #[.bool (ngB (x).num), .slice A0 (digs 4294967296 (x).num.natAbs).length c0, .slice D0 (digs 4294967296 (x).den).length e0] #[.bool (ngB (y).num), .slice A1 (digs 4294967296 (y).num.natAbs).length c1, .slice D1 (digs 4294967296 (y).den).length e1]
      rw [hwx]
      clear hwx
      have k0s := s0.below bb
      have k0d := r0.below bb
      have k0z : IsZ wx (.agg #[.bool (ngB (x).num), .slice A0 (digs 4294967296 (x).num.natAbs).length c0]) (x).num := ⟨_, rfl, k0s⟩
      have k0 : IsQ wx (.agg #[.bool (ngB (x).num), .slice A0 (digs 4294967296 (x).num.natAbs).length c0, .slice D0 (digs 4294967296 (x).den).length e0]) (x) := ⟨_, _, rfl, k0s, k0d⟩
      have k1s := s1.below bb
      have k1d := r1.below bb
      have k1z : IsZ wx (.agg #[.bool (ngB (y).num), .slice A1 (digs 4294967296 (y).num.natAbs).length c1]) (y).num := ⟨_, rfl, k1s⟩
      have k1 : IsQ wx (.agg #[.bool (ngB (y).num), .slice A1 (digs 4294967296 (y).num.natAbs).length c1, .slice D1 (digs 4294967296 (y).den).length e1]) (y) := ⟨_, _, rfl, k1s, k1d⟩
      have hsz0 := bb.size
      have sB := bb.size
      refine flowp 24 [Pd.eq (.pointer (some ⟨w.heap.size, 0, none⟩)), Pd.eq (.pointer (some ⟨w.heap.size, 0, none⟩)), Pd.eq (.bool (ngB (x).num)), Pd.eq (.pointer (some ⟨w.heap.size + 1, 0, none⟩)), Pd.eq (.pointer (some ⟨w.heap.size + 1, 0, none⟩)), Pd.eq (.bool (ngB (y).num)), Pd.eq (.bool true), Pd.eq (.bool true), Pd.eq (.pointer (some ⟨w.heap.size, 0, none⟩)), Pd.eq (.pointer (some ⟨w.heap.size, 1, none⟩)), Pd.eq (.slice A0 (digs 4294967296 (x).num.natAbs).length c0), Pd.eq (.pointer (some ⟨w.heap.size + 1, 0, none⟩)), Pd.eq (.pointer (some ⟨w.heap.size + 1, 1, none⟩)), Pd.eq (.slice A1 (digs 4294967296 (y).num.natAbs).length c1), Pd.eq (.bool false), Pd.eq (.bool false), Pd.eq (.bool false), Pd.any, Pd.any, Pd.any, Pd.any, Pd.any, Pd.eq (.bool false), Pd.eq (.bool false)] (by kernel_rfl) ?ob45 ?done45
      case ob45 =>
        refine And.intro (ob_fieldAddr rfl (wt_none rfl) (ev_far rfl rfl) (fun _ => by kernel_rfl) (fun _ => rfl)) ?_
        refine And.intro (ob_fieldAddr rfl (wt_none rfl) (ev_dep (j := 0) (by kernel_rfl) rfl rfl) (fun _ => by kernel_rfl) (fun _ => rfl)) ?_
        refine And.intro (ob_load rfl (wt_none rfl) (ev_dep (j := 1) (by kernel_rfl) rfl rfl) (fun w2 hb => run_load1 Tryz.underlying4 rfl ((B0.below hb).cell 0)) (fun _ _ => rfl)) ?_
        refine And.intro (ob_fieldAddr rfl (wt_none rfl) (ev_far rfl rfl) (fun _ => by kernel_rfl) (fun _ => rfl)) ?_
        refine And.intro (ob_fieldAddr rfl (wt_none rfl) (ev_dep (j := 3) (by kernel_rfl) rfl rfl) (fun _ => by kernel_rfl) (fun _ => rfl)) ?_
        refine And.intro (ob_load rfl (wt_none rfl) (ev_dep (j := 4) (by kernel_rfl) rfl rfl) (fun w2 hb => run_load1 Tryz.underlying4 rfl ((B1.below hb).cell 0)) (fun _ _ => rfl)) ?_
        refine And.intro (ob_bin rfl (wt_none rfl) (ev_dep (j := 2) (by kernel_rfl) rfl rfl) (ev_dep (j := 5) (by kernel_rfl) rfl rfl) (fun _ _ _ hx hy => ⟨.bool true, by rw [hx, hy]; exact (bin_eql_bool _ _ _ _ Tryz.underlying4 _).trans (by rw [HE.out]), rfl⟩)) ?_
        refine And.intro (ob_move rfl (wt_none rfl) (ev_dep (j := 6) (by kernel_rfl) rfl rfl) (fun _ _ h => h)) ?_
        refine And.intro (ob_fieldAddr rfl (wt_dep (c := true) (b := true) (g := 7) rfl (by kernel_rfl) rfl rfl rfl (by exact fun _ _ h => h)) (ev_far rfl rfl) (fun _ => by kernel_rfl) (fun _ => rfl)) ?_
        refine And.intro (ob_fieldAddr rfl (wt_dep (c := true) (b := true) (g := 7) rfl (by kernel_rfl) rfl rfl rfl (by exact fun _ _ h => h)) (ev_dep (j := 8) (by kernel_rfl) rfl rfl) (fun _ => by kernel_rfl) (fun _ => rfl)) ?_
        refine And.intro (ob_load rfl (wt_dep (c := true) (b := true) (g := 7) rfl (by kernel_rfl) rfl rfl rfl (by exact fun _ _ h => h)) (ev_dep (j := 9) (by kernel_rfl) rfl rfl) (fun w2 hb => run_load1 Tryz.underlying24 rfl ((B0.below hb).cell 1)) (fun _ _ => rfl)) ?_
        refine And.intro (ob_fieldAddr rfl (wt_dep (c := true) (b := true) (g := 7) rfl (by kernel_rfl) rfl rfl rfl (by exact fun _ _ h => h)) (ev_far rfl rfl) (fun _ => by kernel_rfl) (fun _ => rfl)) ?_
        refine And.intro (ob_fieldAddr rfl (wt_dep (c := true) (b := true) (g := 7) rfl (by kernel_rfl) rfl rfl rfl (by exact fun _ _ h => h)) (ev_dep (j := 11) (by kernel_rfl) rfl rfl) (fun _ => by kernel_rfl) (fun _ => rfl)) ?_
        refine And.intro (ob_load rfl (wt_dep (c := true) (b := true) (g := 7) rfl (by kernel_rfl) rfl rfl rfl (by exact fun _ _ h => h)) (ev_dep (j := 12) (by kernel_rfl) rfl rfl) (fun w2 hb => run_load1 Tryz.underlying24 rfl ((B1.below hb).cell 1)) (fun _ _ => rfl)) ?_
        refine And.intro (ob_call2 rfl Tryz.func108 (by kernel_rfl) (wt_dep (c := true) (b := true) (g := 7) rfl (by kernel_rfl) rfl rfl rfl (by exact fun _ _ h => h)) (ev_dep (j := 10) (by kernel_rfl) rfl rfl) (ev_dep (j := 13) (by kernel_rfl) rfl rfl) (fun w2 u0 u1 hb h0 h1 => by obtain rfl := h0; obtain rfl := h1; exact (limbs_num _ _ (x).num.natAbs (y).num.natAbs false _ (k0s.below hb) (k1s.below hb) HN.out).mono fun e w3 h => RetV.pd h)) ?_
        refine And.intro (ob_pick (b := true) rfl (wt_none rfl) (ev_dep (j := 7) (by kernel_rfl) rfl rfl) (ev_dep (j := 14) (by kernel_rfl) rfl rfl) (fun _ _ h => h)) ?_
        refine And.intro (ob_move rfl (wt_none rfl) (ev_dep (j := 15) (by kernel_rfl) rfl rfl) (fun _ _ h => h)) ?_
        refine And.intro (ob_not (wt_dep (c := false) (b := true) (g := 16) rfl (by kernel_rfl) rfl rfl rfl (by exact fun _ _ h => h)) (fun _ => trivial) rfl) ?_
        refine And.intro (ob_not (wt_dep (c := false) (b := true) (g := 16) rfl (by kernel_rfl) rfl rfl rfl (by exact fun _ _ h => h)) (fun _ => trivial) rfl) ?_
        refine And.intro (ob_not (wt_dep (c := false) (b := true) (g := 16) rfl (by kernel_rfl) rfl rfl rfl (by exact fun _ _ h => h)) (fun _ => trivial) rfl) ?_
        refine And.intro (ob_not (wt_dep (c := false) (b := true) (g := 16) rfl (by kernel_rfl) rfl rfl rfl (by exact fun _ _ h => h)) (fun _ => trivial) rfl) ?_
        refine And.intro (ob_not (wt_dep (c := false) (b := true) (g := 16) rfl (by kernel_rfl) rfl rfl rfl (by exact fun _ _ h => h)) (fun _ => trivial) rfl) ?_
        refine And.intro (ob_pick (b := false) rfl (wt_none rfl) (ev_dep (j := 16) (by kernel_rfl) rfl rfl) (ev_const _) (fun _ _ h => h)) ?_
        refine And.intro (ob_assign rfl (wt_none rfl) (ev_dep (j := 22) (by kernel_rfl) rfl rfl) (fun _ _ h => h)) ?_
        trivial
      case done45 =>
        refine fun w1 hb1 v0 h0 v1 h1 v2 h2 v3 h3 v4 h4 v5 h5 v6 h6 v7 h7 v8 h8 v9 h9 v10 h10 v11 h11 v12 h12 v13 h13 v14 h14 v15 h15 v16 h16 v17 h17 v18 h18 v19 h19 v20 h20 v21 h21 v22 h22 v23 h23 b hbf => ?_
        obtain rfl := h0; obtain rfl := h1; obtain rfl := h2; obtain rfl := h3; obtain rfl := h4; obtain rfl := h5; obtain rfl := h6; obtain rfl := h7; obtain rfl := h8; obtain rfl := h9; obtain rfl := h10; obtain rfl := h11; obtain rfl := h12; obtain rfl := h13; obtain rfl := h14; obtain rfl := h15; obtain rfl := h16; obtain rfl := h22; obtain rfl := h23
        clear h17
        clear h18
        clear h19
        clear h20
        clear h21
        simp only [Act.put, List.setIfInBounds_toArray, List.set_cons_zero, List.set_cons_succ] at hbf
        subst hbf
        replace B0 := B0.below hb1
        replace k0s := k0s.below hb1
        replace k0d := k0d.below hb1
        replace k0z := k0z.below hb1
        replace k0 := k0.below hb1
        replace B1 := B1.below hb1
        replace k1s := k1s.below hb1
        replace k1d := k1d.below hb1
        replace k1z := k1z.below hb1
        replace k1 := k1.below hb1
        replace bb := bb.trans (hb1.mono bb.size)
        have hsz1 := bb.size
        refine ops_done ?_
        go_wp2
        go_ret
        exact ⟨rfl, bb⟩
  · obtain ⟨u0, t0, rfl, s0, r0⟩ := h0
    obtain ⟨A0, c0, rfl, _⟩ := id s0
    obtain ⟨D0, e0, rfl, _⟩ := id r0
    obtain ⟨u1, t1, rfl, s1, r1⟩ := h1
    obtain ⟨A1, c1, rfl, _⟩ := id s1
    obtain ⟨D1, e1, rfl, _⟩ := id r1
    obtain rfl : b = false := by rw [hb, decide_eq_false_iff_not]; exact fun e => hs (by rw [e])
    clear hb
    have HE : Hid ((ngB x.num == ngB y.num) = false) := by show _ = _; rw [beq_eq_false_iff_ne]; exact hs
    clear hs
    go_enter Tryz.func85, Tryz.ntmps85
    go_upto_region 1 with (fail)
    obtain ⟨wx, hwx, bb, B0, B1, hsz⟩ := vars2 w 28 28 #[.bool (ngB (x).num), .slice A0 (digs 4294967296 (x).num.natAbs).length c0, .slice D0 (digs 4294967296 (x).den).length e0] #[.bool (ngB (y).num), .slice A1 (digs 4294967296 (y).num.natAbs).length c1, .slice D1 (digs 4294967296 (y).den).length e1]
    rw [hwx]
    clear hwx
    have k0s := s0.below bb
    have k0d := r0.below bb
    have k0z : IsZ wx (.agg #[.bool (ngB (x).num), .slice A0 (digs 4294967296 (x).num.natAbs).length c0]) (x).num := ⟨_, rfl, k0s⟩
    have k0 : IsQ wx (.agg #[.bool (ngB (x).num), .slice A0 (digs 4294967296 (x).num.natAbs).length c0, .slice D0 (digs 4294967296 (x).den).length e0]) (x) := ⟨_, _, rfl, k0s, k0d⟩
    have k1s := s1.below bb
    have k1d := r1.below bb
    have k1z : IsZ wx (.agg #[.bool (ngB (y).num), .slice A1 (digs 4294967296 (y).num.natAbs).length c1]) (y).num := ⟨_, rfl, k1s⟩
    have k1 : IsQ wx (.agg #[.bool (ngB (y).num), .slice A1 (digs 4294967296 (y).num.natAbs).length c1, .slice D1 (digs 4294967296 (y).den).length e1]) (y) := ⟨_, _, rfl, k1s, k1d⟩
    have hsz0 := bb.size
    have sB := bb.size
    refine flowp 24 [Pd.eq (.pointer (some ⟨w.heap.size, 0, none⟩)), Pd.eq (.pointer (some ⟨w.heap.size, 0, none⟩)), Pd.eq (.bool (ngB (x).num)), Pd.eq (.pointer (some ⟨w.heap.size + 1, 0, none⟩)), Pd.eq (.pointer (some ⟨w.heap.size + 1, 0, none⟩)), Pd.eq (.bool (ngB (y).num)), Pd.eq (.bool false), Pd.eq (.bool false), Pd.any, Pd.any, Pd.any, Pd.any, Pd.any, Pd.any, Pd.any, Pd.eq (.bool false), Pd.eq (.bool false), Pd.any, Pd.any, Pd.any, Pd.any, Pd.any, Pd.eq (.bool false), Pd.eq (.bool false)] (by kernel_rfl) ?ob44 ?done44
    case ob44 =>
      refine And.intro (ob_fieldAddr rfl (wt_none rfl) (ev_far rfl rfl) (fun _ => by kernel_rfl) (fun _ => rfl)) ?_
      refine And.intro (ob_fieldAddr rfl (wt_none rfl) (ev_dep (j := 0) (by kernel_rfl) rfl rfl) (fun _ => by kernel_rfl) (fun _ => rfl)) ?_
      refine And.intro (ob_load rfl (wt_none rfl) (ev_dep (j := 1) (by kernel_rfl) rfl rfl) (fun w2 hb => run_load1 Tryz.underlying4 rfl ((B0.below hb).cell 0)) (fun _ _ => rfl)) ?_
      refine And.intro (ob_fieldAddr rfl (wt_none rfl) (ev_far rfl rfl) (fun _ => by kernel_rfl) (fun _ => rfl)) ?_
      refine And.intro (ob_fieldAddr rfl (wt_none rfl) (ev_dep (j := 3) (by kernel_rfl) rfl rfl) (fun _ => by kernel_rfl) (fun _ => rfl)) ?_
      refine And.intro (ob_load rfl (wt_none rfl) (ev_dep (j := 4) (by kernel_rfl) rfl rfl) (fun w2 hb => run_load1 Tryz.underlying4 rfl ((B1.below hb).cell 0)) (fun _ _ => rfl)) ?_
      refine And.intro (ob_bin rfl (wt_none rfl) (ev_dep (j := 2) (by kernel_rfl) rfl rfl) (ev_dep (j := 5) (by kernel_rfl) rfl rfl) (fun _ _ _ hx hy => ⟨.bool false, by rw [hx, hy]; exact (bin_eql_bool _ _ _ _ Tryz.underlying4 _).trans (by rw [HE.out]), rfl⟩)) ?_
      refine And.intro (ob_move rfl (wt_none rfl) (ev_dep (j := 6) (by kernel_rfl) rfl rfl) (fun _ _ h => h)) ?_
      refine And.intro (ob_not (wt_dep (c := false) (b := true) (g := 7) rfl (by kernel_rfl) rfl rfl rfl (by exact fun _ _ h => h)) (fun _ => trivial) rfl) ?_
      refine And.intro (ob_not (wt_dep (c := false) (b := true) (g := 7) rfl (by kernel_rfl) rfl rfl rfl (by exact fun _ _ h => h)) (fun _ => trivial) rfl) ?_
      refine And.intro (ob_not (wt_dep (c := false) (b := true) (g := 7) rfl (by kernel_rfl) rfl rfl rfl (by exact fun _ _ h => h)) (fun _ => trivial) rfl) ?_
      refine And.intro (ob_not (wt_dep (c := false) (b := true) (g := 7) rfl (by kernel_rfl) rfl rfl rfl (by exact fun _ _ h => h)) (fun _ => trivial) rfl) ?_
      refine And.intro (ob_not (wt_dep (c := false) (b := true) (g := 7) rfl (by kernel_rfl) rfl rfl rfl (by exact fun _ _ h => h)) (fun _ => trivial) rfl) ?_
      refine And.intro (ob_not (wt_dep (c := false) (b := true) (g := 7) rfl (by kernel_rfl) rfl rfl rfl (by exact fun _ _ h => h)) (fun _ => trivial) rfl) ?_
      refine And.intro (ob_not (wt_dep (c := false) (b := true) (g := 7) rfl (by kernel_rfl) rfl rfl rfl (by exact fun _ _ h => h)) (fun _ => trivial) rfl) ?_
      refine And.intro (ob_pick (b := false) rfl (wt_none rfl) (ev_dep (j := 7) (by kernel_rfl) rfl rfl) (ev_const _) (fun _ _ h => h)) ?_
      refine And.intro (ob_move rfl (wt_none rfl) (ev_dep (j := 15) (by kernel_rfl) rfl rfl) (fun _ _ h => h)) ?_
      refine And.intro (ob_not (wt_dep (c := false) (b := true) (g := 16) rfl (by kernel_rfl) rfl rfl rfl (by exact fun _ _ h => h)) (fun _ => trivial) rfl) ?_
      refine And.intro (ob_not (wt_dep (c := false) (b := true) (g := 16) rfl (by kernel_rfl) rfl rfl rfl (by exact fun _ _ h => h)) (fun _ => trivial) rfl) ?_
      refine And.intro (ob_not (wt_dep (c := false) (b := true) (g := 16) rfl (by kernel_rfl) rfl rfl rfl (by exact fun _ _ h => h)) (fun _ => trivial) rfl) ?_
      refine And.intro (ob_not (wt_dep (c := false) (b := true) (g := 16) rfl (by kernel_rfl) rfl rfl rfl (by exact fun _ _ h => h)) (fun _ => trivial) rfl) ?_
      refine And.intro (ob_not (wt_dep (c := false) (b := true) (g := 16) rfl (by kernel_rfl) rfl rfl rfl (by exact fun _ _ h => h)) (fun _ => trivial) rfl) ?_
      refine And.intro (ob_pick (b := false) rfl (wt_none rfl) (ev_dep (j := 16) (by kernel_rfl) rfl rfl) (ev_const _) (fun _ _ h => h)) ?_
      refine And.intro (ob_assign rfl (wt_none rfl) (ev_dep (j := 22) (by kernel_rfl) rfl rfl) (fun _ _ h => h)) ?_
      trivial
    case done44 =>
      refine fun w1 hb1 v0 h0 v1 h1 v2 h2 v3 h3 v4 h4 v5 h5 v6 h6 v7 h7 v8 h8 v9 h9 v10 h10 v11 h11 v12 h12 v13 h13 v14 h14 v15 h15 v16 h16 v17 h17 v18 h18 v19 h19 v20 h20 v21 h21 v22 h22 v23 h23 b hbf => ?_
      obtain rfl := h0; obtain rfl := h1; obtain rfl := h2; obtain rfl := h3; obtain rfl := h4; obtain rfl := h5; obtain rfl := h6; obtain rfl := h7; obtain rfl := h15; obtain rfl := h16; obtain rfl := h22; obtain rfl := h23
      clear h8
      clear h9
      clear h10
      clear h11
      clear h12
      clear h13
      clear h14
      clear h17
      clear h18
      clear h19
      clear h20
      clear h21
      simp only [Act.put, List.setIfInBounds_toArray, List.set_cons_zero, List.set_cons_succ] at hbf
      subst hbf
      replace B0 := B0.below hb1
      replace k0s := k0s.below hb1
      replace k0d := k0d.below hb1
      replace k0z := k0z.below hb1
      replace k0 := k0.below hb1
      replace B1 := B1.below hb1
      replace k1s := k1s.below hb1
      replace k1d := k1d.below hb1
      replace k1z := k1z.below hb1
      replace k1 := k1.below hb1
      replace bb := bb.trans (hb1.mono bb.size)
      have hsz1 := bb.size
      refine ops_done ?_
      go_wp2
      go_ret
      exact ⟨rfl, bb⟩
set_option maxHeartbeats 1600000 in
set_option maxRecDepth 100000 in
theorem one8_any (a0 : Value) (x : Rat) (b : Bool) (w : World) (h0 : IsQ w a0 x) (hb : b = decide (x = ((1 : Int) : Rat))) :
    Calls Tryz.prog 51 #[a0] w (RetV (.bool b) w) := by
  obtain ⟨u0, t0, rfl, s0, r0⟩ := h0
  obtain ⟨A0, c0, rfl, _⟩ := id s0
  obtain ⟨D0, e0, rfl, _⟩ := id r0
  have HB := Lib.hid hb
  clear hb
  go_enter Tryz.func51, Tryz.ntmps51
  go_upto_region 1 with (fail)
  obtain ⟨wx, hwx, bb, B0, hsz⟩ := vars1 w 28 #[.bool (ngB (x).num), .slice A0 (digs 4294967296 (x).num.natAbs).length c0, .slice D0 (digs 4294967296 (x).den).length e0]
  rw [hwx]
  clear hwx
  have k0s := s0.below bb
  have k0d := r0.below bb
  have k0z : IsZ wx (.agg #[.bool (ngB (x).num), .slice A0 (digs 4294967296 (x).num.natAbs).length c0]) (x).num := ⟨_, rfl, k0s⟩
  have k0 : IsQ wx (.agg #[.bool (ngB (x).num), .slice A0 (digs 4294967296 (x).num.natAbs).length c0, .slice D0 (digs 4294967296 (x).den).length e0]) (x) := ⟨_, _, rfl, k0s, k0d⟩
  have hsz0 := bb.size
  have sB := bb.size
  refine flow 4 [Pd.eq (.agg #[.bool (ngB (x).num), .slice A0 (digs 4294967296 (x).num.natAbs).length c0, .slice D0 (digs 4294967296 (x).den).length e0]), pq (((1 : Int) : Rat)) wx.heap.size, Pd.eq (.bool b), Pd.eq (.bool b)] (by kernel_rfl) (by kernel_rfl) ?ob47 ?done47
  case ob47 =>
    refine And.intro (ob_load rfl (wt_none rfl) (ev_far rfl rfl) (fun w2 hb => run_loadAll Tryz.underlying28 rfl (by kernel_rfl) (B0.drew.below hb)) (fun _ _ => rfl)) ?_
    refine And.intro (ob_call1 rfl Tryz.func45 (by kernel_rfl) (wt_none rfl) (ev_const _) (fun w2 u0 hb h0 => by obtain rfl := h0; exact (of8_any 1 _ (by omega) (by omega)).mono fun e w3 h => RetQ.pd h hb.size)) ?_
    refine And.intro (ob_call2 rfl Tryz.func85 (by kernel_rfl) (wt_none rfl) (ev_dep (j := 0) (by kernel_rfl) rfl rfl) (ev_dep (j := 1) (by kernel_rfl) rfl rfl) (fun w2 u0 u1 hb h0 h1 => by obtain rfl := h0; exact (same8_any _ _ x ((1 : Int) : Rat) b _ (k0.drew.below hb) h1.1 HB.out).mono fun e w3 h => RetV.pd h)) ?_
    refine And.intro (ob_assign rfl (wt_none rfl) (ev_dep (j := 2) (by kernel_rfl) rfl rfl) (fun _ _ h => h)) ?_
    trivial
  case done47 =>
    refine fun w1 hb1 v0 h0 v1 h1 v2 h2 v3 h3 b hbf => ?_
    obtain rfl := h0; obtain rfl := h2; obtain rfl := h3
    obtain ⟨q1, f1⟩ := h1
    simp only [Act.put, List.setIfInBounds_toArray, List.set_cons_zero, List.set_cons_succ] at hbf
    subst hbf
    replace B0 := B0.below hb1
    replace k0s := k0s.below hb1
    replace k0d := k0d.below hb1
    replace k0z := k0z.below hb1
    replace k0 := k0.below hb1
    replace bb := bb.trans (hb1.mono bb.size)
    have hsz1 := bb.size
    have s_1 := sB
    refine any_done (by kernel_rfl) ?_
    go_wp2
    go_ret
    exact ⟨rfl, bb⟩
end Go.Proofs.YtlnmoledijlemaaGreat.rat
namespace Go.Proofs.YtlnmoledijlemaaGreat.flow
open Go.RowKit Go.Proofs.YtlnmoledijlemaaGreat.num Go.Proofs.YtlnmoledijlemaaGreat.mem
set_option linter.unusedVariables false
/-- What the chain owes: in each such state it yields a value as told, in every world that holds what was there. -/
def LatesH (P : Program) (ops : Array Oper) (L : List Oper) (Φ : List Pd) (wB w0 : World) (a0 : Act) : List Nat → Prop
  | [] => True
  | q :: qs => (∃ oq, L[q]? = some oq ∧ ∀ ms w1, St L Φ w0 oq ms w1 → ∃ v, YieldsIf P ops (fun w2 => Below wB.heap.size wB w2) oq v (putM a0 L ms) ∧ (ph Φ q).p w1 v) ∧ LatesH P ops L Φ wB w0 a0 qs
theorem LatesH.at_ {P : Program} {ops : Array Oper} {L : List Oper} {Φ : List Pd} {wB w0 : World} {a0 : Act} : ∀ (pre : List Nat) (q : Nat) (rest : List Nat), LatesH P ops L Φ wB w0 a0 (pre ++ q :: rest) → ∃ oq, L[q]? = some oq ∧ ∀ ms w1, St L Φ w0 oq ms w1 → ∃ v, YieldsIf P ops (fun w2 => Below wB.heap.size wB w2) oq v (putM a0 L ms) ∧ (ph Φ q).p w1 v
  | [], q, rest, h => h.1
  | a :: pre, q, rest, h => LatesH.at_ pre q rest h.2
/-- All orders at once; the chain S is taken when all others are up. -/
theorem held_main {P : Program} {Q : Exit → Act → World → Prop} {ops : Array Oper} {L L2 : List Oper} {Φ : List Pd} {w0 : World} {a0 : Act} {S : List Nat} (hop : ops.toList = L ++ L2) (hd : distinctB L = true) (hback : backB 0 L = true) (hcov : (L2.all fun o => covC L S L.length o) = true) (hch : chainB L S = true) (hsel : Region.noSelect ops = true) (hlate : lateB ops L L2.length S = true) (hQ : ∀ c a w d v, Q (.panic c) (a.put d v) w → Q (.panic c) a w) {wB : World} (hS0 : ∀ w2, Below w0.heap.size w0 w2 → Below wB.heap.size wB w2) (lates : LatesH P ops L Φ wB w0 a0 S)
    (ob : Obs P Q ops L Φ w0 a0 0 L)
    (done : ∀ ms w, (∀ i, i < L.length → ∃ v, ms[i]? = some (some v)) → Inv L Φ w0 ms w → wpAnyH P .any ops Q (fun w2 => Below wB.heap.size wB w2) L2.length (lst ms L2.length) (putM a0 L ms) w) :
    ∀ (k : Nat) (ms : List (Option Value)) (w : World), (ms.filter Option.isNone).length = k → Inv L Φ w0 ms w → wpAnyH P .any ops Q (fun w2 => Below wB.heap.size wB w2) (k + L2.length) (lst ms L2.length) (putM a0 L ms) w := by
  have hsz : ops.size = L.length + L2.length := by
    have := congrArg List.length hop
    simpa using this
  have hat : ∀ i, ops[i]? = (L ++ L2)[i]? := fun i => by rw [← hop, Array.getElem?_toList]
  intro k
  induction k with
  | zero =>
    intro ms w hk hI
    rw [Nat.zero_add]
    refine done ms w (fun i hi => ?_) hI
    have hi2 : i < ms.length := by rw [hI.len]; exact hi
    rcases hm : ms[i] with _ | v
    · exfalso
      have h1 : ms[i] ∈ ms.filter Option.isNone := List.mem_filter.2 ⟨List.getElem_mem hi2, by rw [hm]; rfl⟩
      rw [List.length_eq_zero_iff.1 hk] at h1
      simp at h1
    · exact ⟨v, by rw [List.getElem?_eq_getElem hi2, hm]⟩
  | succ k ih =>
    intro ms w hk hI
    -- some operation of L has not come up
    have hnot : ¬ ∀ i, i < L.length → ∃ v, ms[i]? = some (some v) := by
      intro hall
      have h0 : ms.filter Option.isNone = [] := by
        rw [List.filter_eq_nil_iff]
        intro m hm
        obtain ⟨i, hi, rfl⟩ := List.mem_iff_getElem.1 hm
        obtain ⟨v, hv⟩ := hall i (by rw [← hI.len]; exact hi)
        rw [List.getElem?_eq_getElem hi] at hv
        rw [Option.some.inj hv]; simp
      rw [h0] at hk; simp at hk
    -- the least one that has not may come up
    have least : ∀ n i, i ≤ n → i < L.length → Region.ready .any ops (lst ms L2.length) = [] → ∃ v, ms[i]? = some (some v) := by
      intro n
      induction n with
      | zero =>
        intro i hin hi hr
        obtain rfl : i = 0 := by omega
        have hi2 : 0 < ms.length := by rw [hI.len]; exact hi
        rcases hm : ms[0] with _ | v
        · exfalso
          have : 0 ∈ Region.ready .any ops (lst ms L2.length) := by
            rw [mem_ready]
            refine ⟨by rw [lst_lt hi2, hm]; rfl, L[0], by rw [hat, List.getElem?_append_left hi, List.getElem?_eq_getElem hi], ?_⟩
            intro e he hb
            have := backB_at L 0 0 _ hback (List.getElem?_eq_getElem hi) e he hb
            omega
          rw [hr] at this; simp at this
        · exact ⟨v, by rw [List.getElem?_eq_getElem hi2, hm]⟩
      | succ n ihn =>
        intro i hin hi hr
        have hi2 : i < ms.length := by rw [hI.len]; exact hi
        rcases hm : ms[i] with _ | v
        · exfalso
          have : i ∈ Region.ready .any ops (lst ms L2.length) := by
            rw [mem_ready]
            refine ⟨by rw [lst_lt hi2, hm]; rfl, L[i], by rw [hat, List.getElem?_append_left hi, List.getElem?_eq_getElem hi], ?_⟩
            intro e he hb
            have h1 := backB_at L 0 i _ hback (List.getElem?_eq_getElem hi) e he hb
            have h3 : e.on < ms.length := by rw [hI.len]; omega
            obtain ⟨v, hv⟩ := ihn e.on (by omega) (by omega) hr
            rw [lst_lt h3]
            rw [List.getElem?_eq_getElem h3] at hv
            rw [Option.some.inj hv]; rfl
          rw [hr] at this; simp at this
        · exact ⟨v, by rw [List.getElem?_eq_getElem hi2, hm]⟩
    rw [show k + 1 + L2.length = (k + L2.length) + 1 from by omega]
    by_cases hbut : ∀ i, i < L.length → i ∉ S → ∃ v, ms[i]? = some (some v)
    · obtain ⟨pre, q, rest, hS, hup, hdown⟩ := chain_down (L := L) hI.len hI.dc S hch hbut hnot
      obtain ⟨h1, h2, h3⟩ := lateB_at pre q rest (hS ▸ hlate)
      obtain ⟨oq, hq, late⟩ := LatesH.at_ pre q rest (hS ▸ lates)
      have hqL : q < L.length := (List.getElem?_eq_some_iff.1 hq).1
      have hA : isA oq = false := by rw [hq] at h3; simpa using h3
      have hq2 : q < ms.length := by rw [hI.len]; exact hqL
      have hmq : ms[q]? = some none := hdown q (by simp)
      have el : lst ms L2.length = lstS L.length L2.length (q :: rest) := lst_chain hI.len hup hdown
      rw [← el] at h1 h2
      obtain ⟨hl1, o, ho, haft⟩ := mem_ready.1 (List.contains_iff_mem.1 h2)
      have hoq : ops[q]? = some oq := by rw [hat, List.getElem?_append_left hqL]; exact hq
      obtain rfl : oq = o := by rw [hoq] at ho; exact Option.some.inj ho
      have hdeps : ∀ e ∈ oq.after, Region.binds .any e = true → ∃ v, ms[e.on]? = some (some v) := by
        intro e he hb
        have h2 := haft e he hb
        by_cases h3 : e.on < ms.length
        · rw [lst_lt h3] at h2
          obtain ⟨v, hv⟩ := Option.isSome_iff_exists.1 h2
          exact ⟨v, by rw [List.getElem?_eq_getElem h3, hv]⟩
        · rw [lst_ge (by omega)] at h2; cases h2
      obtain ⟨v, hy, hp⟩ := late ms w ⟨hI.len, hI.below, hI.ty, hdeps⟩
      have hcnt : ((ms.set q (some v)).filter Option.isNone).length + 1 = (ms.filter Option.isNone).length := by
        have key : ∀ (l : List (Option Value)) (i : Nat), l[i]? = some none → ((l.set i (some v)).filter Option.isNone).length + 1 = (l.filter Option.isNone).length := by
          intro l
          induction l with
          | nil => intro i h; simp at h
          | cons m l ihl =>
            intro i h
            cases i with
            | zero =>
              obtain rfl : m = none := by simpa using h
              simp
            | succ i =>
              have := ihl i (by simpa using h)
              rw [List.set_cons_succ, List.filter_cons, List.filter_cons]
              split
              · simp only [List.length_cons]; omega
              · exact this
        exact key ms q hmq
      have hnext := ih (ms.set q (some v)) w (by omega) (hI.step hq hmq hdeps (Below.refl _ _) hp (fun h => by rw [hA] at h; cases h))
      rw [← lst_set v hq2, ← putM_set v L ms a0 q oq hd hq hmq] at hnext
      exact wpAnyH_take hoq hsel h1 h2 (fun c a w h => hQ c a w _ v h) hy (hS0 _ hI.below) hnext
    refine ⟨fun hr => absurd (fun i hi => least i i (Nat.le_refl _) hi hr) hnot, fun i hi => ?_⟩
    obtain ⟨h1, o, ho, haft⟩ := mem_ready.1 hi
    have hdeps : ∀ e ∈ o.after, Region.binds .any e = true → ∃ v, ms[e.on]? = some (some v) := by
      intro e he hb
      have h2 := haft e he hb
      by_cases h3 : e.on < ms.length
      · rw [lst_lt h3] at h2
        obtain ⟨v, hv⟩ := Option.isSome_iff_exists.1 h2
        exact ⟨v, by rw [List.getElem?_eq_getElem h3, hv]⟩
      · rw [lst_ge (by omega)] at h2; cases h2
    by_cases hiL : i < L.length
    · have hi2 : i < ms.length := by rw [hI.len]; exact hiL
      rw [lst_lt hi2] at h1
      have hmi : ms[i]? = some none := by
        rw [List.getElem?_eq_getElem hi2]
        rcases hm : ms[i] with _ | v
        · rfl
        · rw [hm] at h1; cases h1
      have hoL : L[i]? = some o := by rw [hat, List.getElem?_append_left hiL] at ho; exact ho
      have hob := ob.at_ L 0 i o hoL
      rw [Nat.zero_add] at hob
      have hst := hob ms w ⟨hI.len, hI.below, hI.ty, hdeps⟩
      have hcount : ∀ v : Value, ((ms.set i (some v)).filter Option.isNone).length = k := by
        intro v
        have key : ∀ (l : List (Option Value)) (i : Nat), l[i]? = some none → ((l.set i (some v)).filter Option.isNone).length + 1 = (l.filter Option.isNone).length := by
          intro l
          induction l with
          | nil => intro i h; simp at h
          | cons m l ihl =>
            intro i h
            cases i with
            | zero =>
              obtain rfl : m = none := by simpa using h
              simp
            | succ i =>
              have := ihl i (by simpa using h)
              rw [List.set_cons_succ, List.filter_cons, List.filter_cons]
              split
              · simp only [List.length_cons]; omega
              · exact this
        have := key ms i hmi
        omega
      unfold wpOp
      rw [ho]
      simp only []
      by_cases hw : Region.wanted o (yielded ops (putM a0 L ms).tmps) = true
      · rw [if_pos hw] at hst ⊢
        refine .inl (Oper.wp_mono ?_ hst)
        rintro a' w' ⟨v, rfl, hb, hv, ha⟩
        rw [lst_set v hi2, putM_set v L ms a0 i o hd hoL hmi]
        exact ⟨hS0 _ (hI.step hoL hmi hdeps hb hv ha).below, ih _ w' (hcount v) (hI.step hoL hmi hdeps hb hv ha)⟩
      · rw [if_neg hw] at hst ⊢
        rw [lst_set undef hi2, putM_set undef L ms a0 i o hd hoL hmi]
        exact ⟨hS0 _ hI.below, ih _ w (hcount undef) (hI.step hoL hmi hdeps (Below.refl _ _) hst.1 (fun h => by rw [hst.2] at h; cases h))⟩
    · exfalso
      have ho2 : o ∈ L2 := by
        rw [hat, List.getElem?_append_right (by omega)] at ho
        exact List.mem_of_getElem? ho
      have hc := List.all_eq_true.1 hcov o ho2
      exact hbut (covC_all hI.len hc hdeps hI.dc)
theorem flowh_core {P : Program} {Q : Exit → Act → World → Prop} {ops : Array Oper} (n : Nat) (Φ : List Pd) {w : World} {a0 : Act} (S : List Nat)
    (h1 : distinctB (ops.toList.take n) = true) (h2 : backB 0 (ops.toList.take n) = true) (h3 : ((ops.toList.drop n).all fun o => covC (ops.toList.take n) S (ops.toList.take n).length o) = true) (h4 : Region.noSelect ops = true) (h5 : chainB (ops.toList.take n) S = true) (h6 : lateB ops (ops.toList.take n) (ops.toList.drop n).length S = true) (hQ : ∀ c a w d v, Q (.panic c) (a.put d v) w → Q (.panic c) a w)
    {wB : World} (hS0 : ∀ w2, Below w.heap.size w w2 → Below wB.heap.size wB w2) (lates : LatesH P ops (ops.toList.take n) Φ wB w a0 S)
    (ob : Obs P Q ops (ops.toList.take n) Φ w a0 0 (ops.toList.take n))
    (done : ∀ w', Below w.heap.size w w' → Done (fun a w' => wpAnyH P .any ops Q (fun w2 => Below wB.heap.size wB w2) (ops.toList.drop n).length (List.replicate (ops.toList.take n).length true ++ List.replicate (ops.toList.drop n).length false).toArray a w') Φ w' 0 (ops.toList.take n) [] a0) : wpAnyH P .any ops Q (fun w2 => Below wB.heap.size wB w2) ops.size (Array.replicate ops.size false) a0 w := by
  have hop : ops.toList = ops.toList.take n ++ ops.toList.drop n := (List.take_append_drop n _).symm
  generalize ops.toList.take n = L at *
  generalize ops.toList.drop n = L2 at *
  have hsz : ops.size = L.length + L2.length := by
    have := congrArg List.length hop
    simpa using this
  have none_ : ∀ (i : Nat) (v : Value), ¬ (List.replicate L.length (none : Option Value))[i]? = some (some v) := by
    intro i v h
    rw [List.getElem?_replicate] at h
    split at h <;> cases h
  have hI0 : Inv L Φ w (List.replicate L.length none) w := ⟨by simp, Below.refl _ _, fun i v h => absurd h (none_ i v), fun j x v _ h => absurd h (none_ j v), fun i j oi oj u v _ _ _ _ _ h _ => absurd h (none_ i u), fun i oi u _ _ h => absurd h (none_ i u)⟩
  have hmain := held_main (P := P) (Q := Q) (ops := ops) (L := L) (L2 := L2) (Φ := Φ) (w0 := w) (a0 := a0) (S := S) hop h1 h2 h3 h5 h4 h6 hQ hS0 lates ob (fun ms w' hall hI => by
      rw [lst_end L2.length hI.len hall]
      have := done_all (K := fun a w' => wpAnyH P .any ops Q (fun w2 => Below wB.heap.size wB w2) L2.length (List.replicate L.length true ++ List.replicate L2.length false).toArray a w') hI hall L 0 a0 [] (by simp) (by omega) (by simp) (done w' hI.below)
      simpa using this) L.length (List.replicate L.length none) w (by simp) hI0
  rw [putM_none, lst_start, ← hsz] at hmain
  exact hmain
/-- A region that draws its order; the chain S is taken last. -/
theorem flowh {P : Program} {Q : Exit → Act → World → Prop} {id : Nat} {ops : Array Oper} (n : Nat) (Φ : List Pd) {w : World} {a0 : Act} (hm : P.follows .mixedOrders = true) (S : List Nat)
    (hB : (distinctB (ops.toList.take n) && backB 0 (ops.toList.take n) && (ops.toList.drop n).all (fun o => covC (ops.toList.take n) S (ops.toList.take n).length o) && Region.noSelect ops && chainB (ops.toList.take n) S && lateB ops (ops.toList.take n) (ops.toList.drop n).length S) = true) (hQ : ∀ c a w d v, Q (.panic c) (a.put d v) w → Q (.panic c) a w)
    (lates : LatesH P ops (ops.toList.take n) Φ w w.drew a0 S)
    (ob : Obs P Q ops (ops.toList.take n) Φ w.drew a0 0 (ops.toList.take n))
    (done : ∀ w', Below w.heap.size w w' → Done (fun a w' => wpAnyH P .any ops Q (fun w2 => Below w.heap.size w w2) (ops.toList.drop n).length (List.replicate (ops.toList.take n).length true ++ List.replicate (ops.toList.drop n).length false).toArray a w') Φ w' 0 (ops.toList.take n) [] a0) : (Code.region id ops true).wp P Q a0 w := by
  simp only [Bool.and_eq_true] at hB
  obtain ⟨⟨⟨⟨⟨h1, h2⟩, h3⟩, h4⟩, h5⟩, h6⟩ := hB
  exact wp_region_held hm (flowh_core n Φ (w := w.drew) S h1 h2 h3 h4 h5 h6 hQ (fun w2 hb => (Below.refl _ w).drew.trans hb) lates ob fun w' hb => done w' ((Below.refl _ w).drew.trans hb))
section
variable {P : Program} {ops : Array Oper} {L : List Oper} {Φ : List Pd} {wB w0 : World} {a0 : Act} {o : Oper} {G : Pd} {Q : Exit → Act → World → Prop}
theorem lateh_val (hw : Wt ops L Φ w0 a0 o true) (h : ∀ ms w1, St L Φ w0 o ms w1 → ∃ v, (∀ w, Below wB.heap.size wB w → (execOp (putM a0 L ms).eval o).run P w = .ok (.value v) w) ∧ G.p w1 v) : ∀ ms w1, St L Φ w0 o ms w1 → ∃ v, YieldsIf P ops (fun w2 => Below wB.heap.size wB w2) o v (putM a0 L ms) ∧ G.p w1 v := by
  intro ms w1 hS
  obtain ⟨v, h1, h2⟩ := h ms w1 hS
  exact ⟨v, .inl ⟨hw ms w1 hS, h1⟩, h2⟩
theorem lateh_move {x : Operand} {F : World → Value → Prop} (hop : o.op = .move x) (hw : Wt ops L Φ w0 a0 o true) (hx : Ev L Φ w0 a0 o x F) (hF : ∀ w v, F w v → G.p w v) : ∀ ms w1, St L Φ w0 o ms w1 → ∃ v, YieldsIf P ops (fun w2 => Below wB.heap.size wB w2) o v (putM a0 L ms) ∧ G.p w1 v :=
  lateh_val hw fun ms w1 hS => ⟨_, fun w _ => by unfold execOp; simp only [hop]; rfl, hF w1 _ (hx ms w1 hS)⟩
theorem lateh_indexAddr {t : TypeId} {x y : Operand} {F H : World → Value → Prop} (hop : o.op = .indexAddr t x y) (hw : Wt ops L Φ w0 a0 o true) (hx : Ev L Φ w0 a0 o x F) (hy : Ev L Φ w0 a0 o y H)
    (hr : ∀ w1 u v, F w1 u → H w1 v → ∃ r, (∀ w, (Instr.indexAt t u v).run P w = .ok r w) ∧ G.p w1 r) : ∀ ms w1, St L Φ w0 o ms w1 → ∃ v, YieldsIf P ops (fun w2 => Below wB.heap.size wB w2) o v (putM a0 L ms) ∧ G.p w1 v :=
  lateh_val hw fun ms w1 hS => by
    obtain ⟨v, h1, h2⟩ := hr w1 _ _ (hx ms w1 hS) (hy ms w1 hS)
    exact ⟨v, fun w _ => by unfold execOp; simp only [hop, Sem.run_bind, h1]; rfl, h2⟩
theorem lateh_load {t : TypeId} {x : Operand} {u v : Value} (hop : o.op = .load t x) (hw : Wt ops L Φ w0 a0 o true) (hx : Ev L Φ w0 a0 o x (fun _ y => y = u)) (hr : ∀ w, Below wB.heap.size wB w → (Instr.loadAt t u).run P w = .ok v w) (hF : ∀ w, Below w0.heap.size w0 w → G.p w v) : ∀ ms w1, St L Φ w0 o ms w1 → ∃ v, YieldsIf P ops (fun w2 => Below wB.heap.size wB w2) o v (putM a0 L ms) ∧ G.p w1 v :=
  lateh_val hw fun ms w1 hS => ⟨v, fun w hb => by unfold execOp; simp only [hop]; rw [hx ms w1 hS, Sem.run_bind, hr w hb]; rfl, hF w1 hS.below⟩
variable {S : World → Prop}
theorem anyh_done {fuel : Nat} {listed : Array Bool} {a : Act} {w : World} (hr : Region.ready .any ops listed = []) (h : Q .normal a w) : wpAnyH P .any ops Q S fuel listed a w := wpAnyH_done hr h fuel
theorem anyh_one {fuel i : Nat} {listed : Array Bool} {a : Act} {w : World} (hr : Region.ready .any ops listed = [i]) (ho : ops[i]? = some o) (hg : o.guard = none) (h : o.wp P a w (fun a' w' => S w' ∧ wpAnyH P .any ops Q S fuel (listed.setIfInBounds i true) a' w') Q) : wpAnyH P .any ops Q S (fuel + 1) listed a w := by
  refine wpAnyH_all (rs := [i]) hr (by simp) ?_
  intro j hj
  obtain rfl := List.mem_singleton.1 hj
  unfold wpOp
  rw [ho]
  simp only []
  rw [if_pos (by unfold Region.wanted; rw [hg])]
  exact .inl h
theorem anyh_store {fuel i : Nat} {listed : Array Bool} {a : Act} {w : World} {ty : TypeId} {x y : Operand} {g : Nat} {v : Value} {cells : List Value} {cs : Array Value} {e : TypeId} (hS : Below wB.heap.size wB w) (hgB : wB.heap.size ≤ g) (hr : Region.ready .any ops listed = [i]) (ho : ops[i]? = some o) (hg : o.guard = none) (hd : o.dst = none) (hop : o.op = .store ty x y)
    (hx : a.eval x = .pointer (some ⟨g, 0, none⟩)) (hy : a.eval y = v) (hv : v.cells = cells.toArray) (hB : w.heap[g]? = some (.cells cs e (0, 0))) (hs : cs.size = cells.length) (hi : (P.info? ty).map (·.size) = some cells.length) (h1 : ∀ c ∈ cells, c.oneCell' = true)
    (h : ∀ w', w.grownBy w' (some g) → w'.heap[g]? = some (.cells cells.toArray e (0, 0)) → wpAnyH P .any ops Q (fun w2 => Below wB.heap.size wB w2) fuel (listed.setIfInBounds i true) a w') : wpAnyH P .any ops Q (fun w2 => Below wB.heap.size wB w2) (fuel + 1) listed a w :=
  anyh_one hr ho hg (wp_store_ hd hop hx hy hv hB hs hi h1 fun w' h2 h3 => ⟨hS.trans ((Below.refl _ _).grown h2 hS.size (fun g' hg' => by injection hg' with hg'; omega)), h w' h2 h3⟩)
end
end Go.Proofs.YtlnmoledijlemaaGreat.flow
namespace Go.Proofs.YtlnmoledijlemaaGreat.rat
open Go.RowKit Go.Proofs.YtlnmoledijlemaaGreat.num Go.Proofs.YtlnmoledijlemaaGreat.mem Go.Proofs.YtlnmoledijlemaaGreat.nat Go.Proofs.YtlnmoledijlemaaGreat.txt Go.Proofs.YtlnmoledijlemaaGreat.str Go.Proofs.YtlnmoledijlemaaGreat.flow Go.Proofs.YtlnmoledijlemaaGreat.whl
set_option linter.unusedVariables false
theorem cells3_len (p : Elt) : (cells3 p).length = 3 := rfl
theorem flat3_len (ps : List Elt) : (flat3 ps).length = ps.length * 3 := by
  induction ps with
  | nil => rfl
  | cons p ps ih => show (cells3 p ++ flat3 ps).length = _; rw [List.length_append, ih, cells3_len, List.length_cons]; omega
theorem flat3_cons (p : Elt) (ps : List Elt) : flat3 (p :: ps) = cells3 p ++ flat3 ps := rfl
theorem flat3_set : ∀ (ps : List Elt) (i : Nat) (p : Elt), i < ps.length → (flat3 ps).take (i * 3) ++ cells3 p ++ (flat3 ps).drop (i * 3 + 3) = flat3 (ps.set i p)
  | [], i, p, h => by simp at h
  | q :: ps, 0, p, h => by
    rw [List.set_cons_zero, flat3_cons, flat3_cons]
    simp [cells3]
  | q :: ps, i + 1, p, h => by
    have ih := flat3_set ps i p (by simpa using h)
    rw [List.set_cons_succ, flat3_cons, flat3_cons, ← ih, show (i + 1) * 3 = i * 3 + 1 + 1 + 1 from by omega, show i * 3 + 1 + 1 + 1 + 3 = i * 3 + 3 + 1 + 1 + 1 from by omega]
    simp [cells3]
/-- The block holds so many elements; the first ones read as these fractions. -/
def RowN (w : World) (g n : Nat) (qs : List Rat) : Prop := ∃ ps : List Elt, ps.length = n ∧ qs.length ≤ n ∧ Blk w g 28 (flat3 ps).toArray ∧ (∀ p ∈ ps, (∃ A m c, p.2.1 = .slice A m c) ∧ ∃ A m c, p.2.2 = .slice A m c) ∧ ∀ (i : Nat) (q : Rat), qs[i]? = some q → ∃ p, ps[i]? = some p ∧ p.1 = q ∧ IsE .u64 4294967296 w p
theorem RowN.below {w w' : World} {g n : Nat} {qs : List Rat} (h : RowN w g n qs) (hb : Below w.heap.size w w') : RowN w' g n qs := by
  obtain ⟨ps, h1, h2, h3, h4, h5⟩ := h
  refine ⟨ps, h1, h2, h3.below hb, h4, fun i q hq => ?_⟩
  obtain ⟨p, k1, k2, k3⟩ := h5 i q hq
  exact ⟨p, k1, k2, k3.below hb⟩
theorem RowN.drew {w : World} {g n : Nat} {qs : List Rat} (h : RowN w g n qs) : RowN w.drew g n qs := h
theorem RowN.lt {w : World} {g n : Nat} {qs : List Rat} (h : RowN w g n qs) : g < w.heap.size := by
  obtain ⟨ps, _, _, h3, _⟩ := h
  exact h3.lt
theorem RowN.le {w : World} {g n : Nat} {qs : List Rat} (h : RowN w g n qs) : qs.length ≤ n := by
  obtain ⟨ps, _, h2, _⟩ := h
  exact h2
/-- Another variable, without ints, is set. -/
theorem RowN.offb {w w' : World} {g g2 n : Nat} {qs : List Rat} {e : TypeId} {cs : Array Value} (h : RowN w g n qs) (hB : w.heap[g2]? = some (.cells cs e (0, 0))) (hno : ∀ c ∈ cs, ∀ n, c ≠ .int .u64 n) (hg : w.grownBy w' (some g2)) (hne : g ≠ g2) : RowN w' g n qs := by
  obtain ⟨ps, h1, h2, h3, h4, h5⟩ := h
  refine ⟨ps, h1, h2, h3.grown hg hne, h4, fun i q hq => ?_⟩
  obtain ⟨p, k1, k2, k3⟩ := h5 i q hq
  exact ⟨p, k1, k2, Go.Proofs.YtlnmoledijlemaaGreat.flow.off k3.1 hB hno hg, Go.Proofs.YtlnmoledijlemaaGreat.flow.off k3.2 hB hno hg⟩
theorem flat3_mem {ps : List Elt} {c : Value} (h : c ∈ flat3 ps) : ∃ p ∈ ps, c ∈ cells3 p := List.mem_flatMap.1 h
theorem no_ints_flat {k : IntKind} {ps : List Elt} (h4 : ∀ p ∈ ps, (∃ A m c, p.2.1 = .slice A m c) ∧ ∃ A m c, p.2.2 = .slice A m c) : ∀ c ∈ (flat3 ps).toArray, ∀ n, c ≠ .int k n := by
  intro c hc n
  obtain ⟨p, hp, hc⟩ := flat3_mem (List.mem_toArray.1 hc)
  obtain ⟨⟨A, m, d, e1⟩, ⟨A', m', d', e2⟩⟩ := h4 p hp
  simp only [cells3, e1, e2, List.mem_cons, List.not_mem_nil, or_false] at hc
  rcases hc with rfl | rfl | rfl <;> simp
/-- A list of limbs is kept where the row is written. -/
theorem RowN.keep {w w' : World} {g n : Nat} {qs : List Rat} {k : IntKind} {v : Value} {l : List Nat} (h : RowN w g n qs) (hg : w.grownBy w' (some g)) (hs : IsS w k v l) : IsS w' k v l := by
  obtain ⟨ps, _, _, h3, h4, _⟩ := h
  exact Go.Proofs.YtlnmoledijlemaaGreat.flow.off hs h3 (no_ints_flat h4) hg
/-- One of them. -/
theorem RowN.at_ {w : World} {g n i : Nat} {qs : List Rat} {q : Rat} (h : RowN w g n qs) (hq : qs[i]? = some q) : ∃ u t, i < n ∧ w.cell? ⟨g, 0 + i * 3, none⟩ = some (.bool (ngB q.num)) ∧ w.cell? ⟨g, 0 + i * 3 + 1, none⟩ = some u ∧ w.cell? ⟨g, 0 + i * 3 + 2, none⟩ = some t ∧ IsS w .u64 u (digs 4294967296 q.num.natAbs) ∧ IsS w .u64 t (digs 4294967296 q.den) := by
  obtain ⟨ps, h1, h2, h3, h4, h5⟩ := h
  obtain ⟨p, k1, rfl, k3⟩ := h5 i q hq
  obtain ⟨f0, f1, f2⟩ := flat3_at ps i p k1
  have hi := (List.getElem?_eq_some_iff.1 k1).1
  rw [Nat.zero_add]
  refine ⟨p.2.1, p.2.2, by omega, ?_, ?_, ?_, k3.1, k3.2⟩
  · rw [h3.cell, List.getElem?_toArray]; exact f0
  · rw [h3.cell, List.getElem?_toArray]; exact f1
  · rw [h3.cell, List.getElem?_toArray]; exact f2
/-- A full row is a slice of these fractions. -/
theorem RowN.sl {w : World} {g n : Nat} {qs : List Rat} (h : RowN w g n qs) (hn : qs.length = n) (hm : n ≤ 1000000000) : SlF .u64 4294967296 w (.slice (some ⟨g, 0, none⟩) n n) qs := by
  obtain ⟨ps, h1, h2, h3, h4, h5⟩ := h
  have key : ∀ (i : Nat) (p : Elt), ps[i]? = some p → qs[i]? = some p.1 ∧ IsE .u64 4294967296 w p := by
    intro i p hp
    have hi := (List.getElem?_eq_some_iff.1 hp).1
    have hq : qs[i]? = some (qs[i]'(by omega)) := List.getElem?_eq_getElem (by omega)
    obtain ⟨p', k1, k2, k3⟩ := h5 i _ hq
    rw [hp] at k1
    injection k1 with k1
    subst k1
    exact ⟨by rw [hq, k2], k3⟩
  refine ⟨ps, ?_, ⟨some ⟨g, 0, none⟩, n, by rw [h1], by omega, by unfold maxLen; omega, fun i p hp => ⟨g, 0, rfl, ?_⟩⟩, fun p hp => ?_⟩
  · refine List.ext_getElem? fun i => ?_
    rw [List.getElem?_map]
    cases hp : ps[i]? with
    | none =>
      have : ps.length ≤ i := List.getElem?_eq_none_iff.1 hp
      rw [List.getElem?_eq_none (by omega)]; rfl
    | some p => rw [(key i p hp).1]; rfl
  · obtain ⟨f0, f1, f2⟩ := flat3_at ps i p hp
    rw [Nat.zero_add]
    refine ⟨?_, ?_, ?_⟩
    · rw [h3.cell, List.getElem?_toArray]; exact f0
    · rw [h3.cell, List.getElem?_toArray]; exact f1
    · rw [h3.cell, List.getElem?_toArray]; exact f2
  · obtain ⟨i, hi⟩ := List.mem_iff_getElem?.1 hp
    exact (key i p hi).2
/-- A row that 'make' made. -/
theorem rowN_made {w : World} {g n : Nat} (h : Blk w g 28 (flat3 (List.replicate n ((0, .slice none 0 0, .slice none 0 0) : Elt))).toArray) : RowN w g n [] :=
  ⟨_, List.length_replicate, Nat.zero_le _, h, fun p hp => by obtain rfl := (List.mem_replicate.1 hp).2; exact ⟨⟨_, _, _, rfl⟩, ⟨_, _, _, rfl⟩⟩, fun i q hq => by simp at hq⟩
theorem made3 (n : Nat) : (madeCells #[.bool false, .slice none 0 0, .slice none 0 0] (n * 3)).toList = flat3 (List.replicate n ((0, .slice none 0 0, .slice none 0 0) : Elt)) := by
  have key : ∀ n j : Nat, (flat3 (List.replicate n ((0, .slice none 0 0, .slice none 0 0) : Elt)))[j]? = if j < n * 3 then some ((#[.bool false, .slice none 0 0, .slice none 0 0] : Array Value)[j % 3]?.getD undef) else none := by
    intro n
    induction n with
    | zero => intro j; simp [flat3]
    | succ n ih =>
      intro j
      rw [List.replicate_succ, flat3_cons]
      match j with
      | 0 => simp [cells3, ngB]
      | 1 => simp [cells3]; omega
      | 2 => simp [cells3]; omega
      | j + 3 =>
        have e : (cells3 ((0, .slice none 0 0, .slice none 0 0) : Elt) ++ flat3 (List.replicate n ((0, .slice none 0 0, .slice none 0 0) : Elt)))[j + 3]? = (flat3 (List.replicate n ((0, .slice none 0 0, .slice none 0 0) : Elt)))[j]? := by simp [cells3]
        rw [e, ih j]
        have h1 : (j + 3) % 3 = j % 3 := by omega
        rw [h1]
        by_cases h : j < n * 3
        · rw [if_pos h, if_pos (by omega)]
        · rw [if_neg h, if_neg (by omega)]
  apply List.ext_getElem?
  intro j
  rw [key n j]
  have h3 : j % 3 < 3 := Nat.mod_lt _ (by omega)
  by_cases h : j < n * 3
  · rw [if_pos h]
    rcases (by omega : j % 3 = 0 ∨ j % 3 = 1 ∨ j % 3 = 2) with e | e | e <;> simp [madeCells, h, e]
  · rw [if_neg h]
    simp [madeCells, h]
section
variable {P : Program}
theorem run_make_q {w : World} {t : TypeId} (ht : P.underlying t = some (.slice 28)) (hI : ∃ i, P.info? 28 = some i ∧ i.zero = some (.agg #[.bool false, .slice none 0 0, .slice none 0 0]) ∧ i.size = 3 ∧ i.bytes = 56) (n : Nat) (hn : n ≤ 1000000000) :
    ∃ w', (Instr.makeSlice t (.int .i64 (n : Int)) (.int .i64 (n : Int))).run P w = .ok (.slice (some ⟨w.heap.size, 0, none⟩) n n) w' ∧ RowN w' w.heap.size n [] ∧ Below w.heap.size w w' := by
  obtain ⟨i, hi, hz, hs, hb⟩ := hI
  obtain ⟨w', h1, h2, h3⟩ := run_make_full (P := P) w w.heap.size t 28 i _ 3 ht hi hz hs .i64 .i64 n (by rw [hb]; omega) (by unfold maxLen; omega) (Nat.le_refl _)
  refine ⟨w', h1, rowN_made ?_, (Below.refl _ w).grown h3 (Nat.le_refl _) (fun g hg => by cases hg)⟩
  obtain ⟨hl, h2⟩ := h2
  rcases h2 with ⟨h4, _⟩ | ⟨g, cap, cur, h4, _, h5, _, _, h6, h7⟩
  · cases h4
  · injection h4 with h4 _ h8
    injection h4 with h4
    injection h4 with h4 _ _
    subst h4; subst h8
    rw [List.take_of_length_le (by simp [h6])] at h7
    have e : cur = (flat3 (List.replicate n ((0, .slice none 0 0, .slice none 0 0) : Elt))).toArray := by
      rw [← made3]
      rw [show (Value.agg #[.bool false, .slice none 0 0, .slice none 0 0]).cells = #[.bool false, .slice none 0 0, .slice none 0 0] from rfl] at h7
      rw [← h7]
    rw [← e]
    exact h5
theorem wpList_make_q {w : World} {ops : Array Oper} {rest : List Oper} {o : Oper} {a : Act} {Q : Exit → Act → World → Prop} (hgd : o.guard = none) (lo co : Operand) {t : TypeId} (ho : o.op = Op.makeSlice t lo co)
    (ht : P.underlying t = some (.slice 28)) (hI : ∃ i, P.info? 28 = some i ∧ i.zero = some (.agg #[.bool false, .slice none 0 0, .slice none 0 0]) ∧ i.size = 3 ∧ i.bytes = 56) (n : Nat) (hl : a.eval lo = .int .i64 (n : Int)) (hc : a.eval co = .int .i64 (n : Int)) (hn : n ≤ 1000000000)
    (h : ∀ w', RowN w' w.heap.size n [] → Below w.heap.size w w' → wpList P ops Q rest (a.put o.dst (.slice (some ⟨w.heap.size, 0, none⟩) n n)) w') : wpList P ops Q (o :: rest) a w := by
  obtain ⟨w', h1, h2, h3⟩ := run_make_q (P := P) (w := w) ht hI n hn
  refine wpList_plain hgd fun K hK => ?_
  unfold Oper.wp execOp
  simp only [ho, hl, hc, Sem.run_bind, h1, Result.andThen_ok]
  exact hK _ _ (h w' h2 h3)
/-- The row is written at one place. -/
theorem RowN.put {w w' : World} {g n i : Nat} {qs : List Rat} {q : Rat} {u t : Value} (h : RowN w g n qs) (hi : i < n) (hu : IsS w .u64 u (digs 4294967296 q.num.natAbs)) (ht : IsS w .u64 t (digs 4294967296 q.den)) (hg : w.grownBy w' (some g)) (hc : ∀ cs, Blk w g 28 cs → Blk w' g 28 (cs.toList.take (0 + i * 3) ++ [.bool (ngB q.num), u, t] ++ cs.toList.drop (0 + i * 3 + 3)).toArray) : (i = qs.length → RowN w' g n (qs ++ [q])) ∧ (i < qs.length → RowN w' g n (qs.set i q)) := by
  have keep := fun {k v l} => h.keep (k := k) (v := v) (l := l) hg
  obtain ⟨ps, h1, h2, h3, h4, h5⟩ := h
  have hB : Blk w' g 28 (flat3 (ps.set i (q, u, t))).toArray := by
    have h6 := hc _ h3
    rw [Nat.zero_add, List.toList_toArray] at h6
    rw [← flat3_set ps i (q, u, t) (by omega)]
    exact h6
  have hS : ∀ p ∈ ps.set i (q, u, t), (∃ A m c, p.2.1 = .slice A m c) ∧ ∃ A m c, p.2.2 = .slice A m c := by
    intro p hp
    rcases List.mem_or_eq_of_mem_set hp with hp | rfl
    · exact h4 p hp
    · obtain ⟨A, c, e1, _⟩ := hu
      obtain ⟨D, d, e2, _⟩ := ht
      exact ⟨⟨_, _, _, e1⟩, ⟨_, _, _, e2⟩⟩
  have hE : IsE .u64 4294967296 w' ((q, u, t) : Elt) := ⟨keep hu, keep ht⟩
  have old : ∀ (j : Nat) (x : Rat), j ≠ i → qs[j]? = some x → ∃ p, (ps.set i (q, u, t))[j]? = some p ∧ p.1 = x ∧ IsE .u64 4294967296 w' p := by
    intro j x hj hx
    obtain ⟨p, k1, k2, k3⟩ := h5 j x hx
    exact ⟨p, by rw [List.getElem?_set_ne (fun e => hj e.symm)]; exact k1, k2, keep k3.1, keep k3.2⟩
  have new : (ps.set i (q, u, t))[i]? = some ((q, u, t) : Elt) := by rw [List.getElem?_set_self (by omega)]
  constructor
  · intro hiq
    refine ⟨ps.set i (q, u, t), by rw [List.length_set]; exact h1, by simp; omega, hB, hS, fun j x hx => ?_⟩
    by_cases hj : j = i
    · subst hj
      rw [hiq, List.getElem?_concat_length] at hx
      injection hx with hx
      subst hx
      exact ⟨_, new, rfl, hE⟩
    · refine old j x hj ?_
      have hl := (List.getElem?_eq_some_iff.1 hx).1
      rw [List.length_append, List.length_singleton] at hl
      rwa [List.getElem?_append_left (by omega)] at hx
  · intro hiq
    refine ⟨ps.set i (q, u, t), by rw [List.length_set]; exact h1, by simp; omega, hB, hS, fun j x hx => ?_⟩
    by_cases hj : j = i
    · subst hj
      rw [List.getElem?_set_self hiq] at hx
      injection hx with hx
      subst hx
      exact ⟨_, new, rfl, hE⟩
    · rw [List.getElem?_set_ne (fun e => hj e.symm)] at hx
      exact old j x hj hx
theorem grownBy_setRow (w : World) (g : Nat) (cs : Array Value) : w.grownBy (w.setRow g cs) (some g) := ⟨rfl, rfl, rfl, by simp [World.setRow], fun k _ hk => setRow_other w g k cs (fun e => hk (by rw [e]))⟩
theorem wp_store_q {o : Oper} {a : Act} {w : World} {K : Act → World → Prop} {Q : Exit → Act → World → Prop} {ty : TypeId} {x y : Operand} {g n i : Nat} {qs : List Rat} {q : Rat} {u t : Value} (hd : o.dst = none) (hop : o.op = .store ty x y) (hx : a.eval x = .pointer (some ⟨g, 0 + i * 3, none⟩)) (hy : a.eval y = .agg #[.bool (ngB q.num), u, t])
    (hI : (P.info? ty).map (·.size) = some 3) (hR : RowN w g n qs) (hi : i < n) (hu : IsS w .u64 u (digs 4294967296 q.num.natAbs)) (ht : IsS w .u64 t (digs 4294967296 q.den))
    (h : ∀ w', w.grownBy w' (some g) → (i = qs.length → RowN w' g n (qs ++ [q])) ∧ (i < qs.length → RowN w' g n (qs.set i q)) → K a w') : o.wp P a w K Q := by
  obtain ⟨ps, h1, h2, h3, h4, h5⟩ := id hR
  have one : ∀ v ∈ [Value.bool (ngB q.num), u, t], v.oneCell' = true := by
    obtain ⟨A, c, rfl, _⟩ := id hu
    obtain ⟨D, d, rfl, _⟩ := id ht
    exact one3 rfl rfl rfl
  have hrun := run_storeCells_at (P := P) g (0 + i * 3) 28 [Value.bool (ngB q.num), u, t] 0 (flat3 ps).toArray w h3 (by simp [flat3_len]; omega) one
  rw [Nat.add_zero] at hrun
  have key : ∀ (A : Addr) (W : World), (storeCells A [Value.bool (ngB q.num), u, t] 0).run P w = .ok () W → (storeVar ty A (.agg #[.bool (ngB q.num), u, t])).run P w = .ok () W := by
    intro A W hrun
    cases hq : P.info? ty with
    | none => simp [hq] at hI
    | some inf =>
      have hsz : 3 = inf.size := by simp [hq] at hI; omega
      have e : (Value.agg #[.bool (ngB q.num), u, t]).cells = ([Value.bool (ngB q.num), u, t] : List Value).toArray := rfl
      simp [storeVar, sizeOf, typeInfo, hq, e, ← hsz, hrun]
  have hst := key _ _ hrun
  unfold Oper.wp execOp
  simp only [hop, hx, hy, Instr.storeAt, Instr.sureAddr, Sem.run_bind, Sem.run_pure, Result.andThen_ok, hst, Oper.upon_skip, hd]
  refine h _ (grownBy_setRow _ _ _) (hR.put hi hu ht (grownBy_setRow _ _ _) fun cs hcs => ?_)
  unfold Blk at hcs h3 ⊢
  rw [h3] at hcs
  injection hcs with hcs
  injection hcs with hcs
  subst hcs
  exact setRow_heap w g _ _ _ _ h3
theorem ops_store_q {Q : Exit → Act → World → Prop} {ops : Array Oper} {o : Oper} {j : Nat} {rest : List Nat} {a : Act} {w : World} {ty : TypeId} {x y : Operand} {g n i : Nat} {qs : List Rat} {q : Rat} {u t : Value} (ho : ops[j]? = some o) (hgd : o.guard = none) (hd : o.dst = none) (hop : o.op = .store ty x y) (hx : a.eval x = .pointer (some ⟨g, 0 + i * 3, none⟩)) (hy : a.eval y = .agg #[.bool (ngB q.num), u, t])
    (hI : (P.info? ty).map (·.size) = some 3) (hR : RowN w g n qs) (hi : i < n) (hu : IsS w .u64 u (digs 4294967296 q.num.natAbs)) (ht : IsS w .u64 t (digs 4294967296 q.den))
    (h : ∀ w', w.grownBy w' (some g) → (i = qs.length → RowN w' g n (qs ++ [q])) ∧ (i < qs.length → RowN w' g n (qs.set i q)) → wpOps P ops Q rest a w') : wpOps P ops Q (j :: rest) a w :=
  ops_one ho hgd (wp_store_q hd hop hx hy hI hR hi hu ht h)
theorem any_store_q {Q : Exit → Act → World → Prop} {ops : Array Oper} {o : Oper} {fuel j : Nat} {listed : Array Bool} {a : Act} {w : World} {ty : TypeId} {x y : Operand} {g n i : Nat} {qs : List Rat} {q : Rat} {u t : Value} (hr : Region.ready .any ops listed = [j]) (ho : ops[j]? = some o) (hgd : o.guard = none) (hd : o.dst = none) (hop : o.op = .store ty x y) (hx : a.eval x = .pointer (some ⟨g, 0 + i * 3, none⟩)) (hy : a.eval y = .agg #[.bool (ngB q.num), u, t])
    (hI : (P.info? ty).map (·.size) = some 3) (hR : RowN w g n qs) (hi : i < n) (hu : IsS w .u64 u (digs 4294967296 q.num.natAbs)) (ht : IsS w .u64 t (digs 4294967296 q.den))
    (h : ∀ w', w.grownBy w' (some g) → (i = qs.length → RowN w' g n (qs ++ [q])) ∧ (i < qs.length → RowN w' g n (qs.set i q)) → wpAny P .any ops Q fuel (listed.setIfInBounds j true) a w') : wpAny P .any ops Q (fuel + 1) listed a w :=
  any_one hr ho hgd (wp_store_q hd hop hx hy hI hR hi hu ht h)
end
/-! Calls through a function's value. -/
section
variable {P : Program} {Q : Exit → Act → World → Prop} {ops : Array Oper} {L : List Oper} {Φ : List Pd} {w0 : World} {a0 : Act} {i : Nat} {o : Oper}
theorem ev_func (f : FuncId) : Ev L Φ w0 a0 o (.func f) (fun _ u => u = .func (.func f) #[] #[]) := fun _ _ _ => rfl
theorem exec_callv {ρ : Operand → Value} {f : FuncId} {z : Operand} {xs : Array Operand} {at_ : Array TypeId} {w : World} (hop : o.op = .call { callee := .value z, args := xs, argTypes := at_ }) (hρ : ρ z = .func (.func f) #[] #[]) {args : Array Value} (ha : xs.map ρ = args) : (execOp ρ o).run P w = (callFunc f args).run P w := by
  subst ha
  unfold execOp
  simp [hop, resolve, hρ, Deferred.ofValue, invoke]
theorem ob_callv2 {f : FuncId} {fn : Func} {z x y : Operand} {at_ : Array TypeId} {F G : World → Value → Prop} (hop : o.op = .call { callee := .value z, args := #[x, y], argTypes := at_ }) (hz : Ev L Φ w0 a0 o z (fun _ u => u = .func (.func f) #[] #[])) (hf : P.funcs[f]? = some fn) (hB : (!(fn.name == "runtime.NumGoroutine") && fn.body.isSome) = true) (hw : Wt ops L Φ w0 a0 o true)
    (hx : Ev L Φ w0 a0 o x F) (hy : Ev L Φ w0 a0 o y G) (hc : ∀ w u v, Below w0.heap.size w0 w → F w u → G w v → Calls P f #[u, v] w (RetPd (ph Φ i) w)) : Ob P Q ops L Φ w0 a0 i o :=
  ob_enter hf hB hw (by unfold isA; rw [hop]) fun ms w hS => ⟨#[(putM a0 L ms).eval x, (putM a0 L ms).eval y], exec_callv hop (hz ms w hS) (by simp), hc w _ _ hS.below (hx ms w hS) (hy ms w hS)⟩
end
set_option linter.unusedSimpArgs false
/-- The whole numbers 0 and 1 as fractions. -/
theorem RatP_of0 (w : World) : Calls Tryz.prog 45 #[.int .i64 0] w (RetQ (0 : Rat) w) := of8_any 0 w (by omega) (by omega)
theorem RatP_of1 (w : World) : Calls Tryz.prog 45 #[.int .i64 1] w (RetQ (1 : Rat) w) := of8_any 1 w (by omega) (by omega)
set_option maxHeartbeats 1600000 in
set_option maxRecDepth 100000 in
theorem own8_any (a0 : Value) (x : Rat) (w : World) (h0 : IsQ w a0 x) (hl : lenQ x 100000) :
    Calls Tryz.prog 57 #[a0] w (RetQ x w) := by
  obtain ⟨u0, t0, rfl, s0, r0⟩ := h0
  obtain ⟨A0, c0, rfl, _⟩ := id s0
  obtain ⟨D0, e0, rfl, _⟩ := id r0
  go_enter Tryz.func57, Tryz.ntmps57
  go_upto_region 1 with (fail)
  obtain ⟨wx, hwx, bb, B0, BR0, hsz⟩ := vars2 w 28 28 #[.bool (ngB (x).num), .slice A0 (digs 4294967296 (x).num.natAbs).length c0, .slice D0 (digs 4294967296 (x).den).length e0] #[.bool false, .slice none 0 0, .slice none 0 0]
  rw [hwx]
  clear hwx
  have k0s := s0.below bb
  have k0d := r0.below bb
  have k0z : IsZ wx (.agg #[.bool (ngB (x).num), .slice A0 (digs 4294967296 (x).num.natAbs).length c0]) (x).num := ⟨_, rfl, k0s⟩
  have k0 : IsQ wx (.agg #[.bool (ngB (x).num), .slice A0 (digs 4294967296 (x).num.natAbs).length c0, .slice D0 (digs 4294967296 (x).den).length e0]) (x) := ⟨_, _, rfl, k0s, k0d⟩
  have hsz0 := bb.size
  have sB := bb.size
  refine flow 12 [Pd.eq (.pointer (some ⟨w.heap.size, 0, none⟩)), Pd.eq (.pointer (some ⟨w.heap.size, 0, none⟩)), Pd.eq (.bool (ngB (x).num)), Pd.eq (.pointer (some ⟨w.heap.size, 0, none⟩)), Pd.eq (.pointer (some ⟨w.heap.size, 1, none⟩)), Pd.eq (.slice A0 (digs 4294967296 (x).num.natAbs).length c0), ps .u64 (digs 4294967296 (x).num.natAbs) wx.heap.size, pz ((x).num) wx.heap.size, Pd.eq (.pointer (some ⟨w.heap.size, 2, none⟩)), Pd.eq (.slice D0 (digs 4294967296 (x).den).length e0), ps .u64 (digs 4294967296 (x).den) wx.heap.size, pq (x) wx.heap.size] (by kernel_rfl) (by kernel_rfl) ?ob1 ?done1
  case ob1 =>
    refine And.intro (ob_fieldAddr rfl (wt_none rfl) (ev_far rfl rfl) (fun _ => by kernel_rfl) (fun _ => rfl)) ?_
    refine And.intro (ob_fieldAddr rfl (wt_none rfl) (ev_dep (j := 0) (by kernel_rfl) rfl rfl) (fun _ => by kernel_rfl) (fun _ => rfl)) ?_
    refine And.intro (ob_load rfl (wt_none rfl) (ev_dep (j := 1) (by kernel_rfl) rfl rfl) (fun w2 hb => run_load1 Tryz.underlying4 rfl ((B0.drew.below hb).cell 0)) (fun _ _ => rfl)) ?_
    refine And.intro (ob_fieldAddr rfl (wt_none rfl) (ev_far rfl rfl) (fun _ => by kernel_rfl) (fun _ => rfl)) ?_
    refine And.intro (ob_fieldAddr rfl (wt_none rfl) (ev_dep (j := 3) (by kernel_rfl) rfl rfl) (fun _ => by kernel_rfl) (fun _ => rfl)) ?_
    refine And.intro (ob_load rfl (wt_none rfl) (ev_dep (j := 4) (by kernel_rfl) rfl rfl) (fun w2 hb => run_load1 Tryz.underlying24 rfl ((B0.drew.below hb).cell 1)) (fun _ _ => rfl)) ?_
    refine And.intro (ob_call1 rfl Tryz.func89 (by kernel_rfl) (wt_none rfl) (ev_dep (j := 5) (by kernel_rfl) rfl rfl) (fun w2 u0 hb h0 => by obtain rfl := h0; exact (clone_any _ _ _ (k0s.drew.below hb) (Nat.le_trans hl.1 (by decide))).mono fun e w3 h => RetS.pd h hb.size)) ?_
    refine And.intro (ob_build2b rfl (wt_none rfl) (ev_dep (j := 2) (by kernel_rfl) rfl rfl) (ev_dep (j := 6) (by kernel_rfl) rfl rfl) (fun w2 u v hb hu hv => by obtain rfl := hu; obtain ⟨A7, c7, rfl, _⟩ := id hv.1; exact ⟨.agg #[.bool (ngB (x).num), .slice A7 (digs 4294967296 (x).num.natAbs).length c7], by kernel_rfl, ⟨_, rfl, hv.1⟩, freshZ_mk hv.2⟩)) ?_
    refine And.intro (ob_fieldAddr rfl (wt_none rfl) (ev_far rfl rfl) (fun _ => by kernel_rfl) (fun _ => rfl)) ?_
    refine And.intro (ob_load rfl (wt_none rfl) (ev_dep (j := 8) (by kernel_rfl) rfl rfl) (fun w2 hb => run_load1 Tryz.underlying24 rfl ((B0.drew.below hb).cell 2)) (fun _ _ => rfl)) ?_
    refine And.intro (ob_call1 rfl Tryz.func89 (by kernel_rfl) (wt_none rfl) (ev_dep (j := 9) (by kernel_rfl) rfl rfl) (fun w2 u0 hb h0 => by obtain rfl := h0; exact (clone_any _ _ _ (k0d.drew.below hb) (Nat.le_trans hl.2 (by decide))).mono fun e w3 h => RetS.pd h hb.size)) ?_
    refine And.intro (ob_build2b rfl (wt_none rfl) (ev_dep (j := 7) (by kernel_rfl) rfl rfl) (ev_dep (j := 10) (by kernel_rfl) rfl rfl) (fun w2 u v hb hu hv => by obtain ⟨u7, rfl, hu7⟩ := hu.1; obtain ⟨A7, c7, rfl, _⟩ := id hu7; obtain ⟨A8, c8, rfl, _⟩ := id hv.1; exact ⟨.agg #[.bool (ngB (x).num), .slice A7 (digs 4294967296 (x).num.natAbs).length c7, .slice A8 (digs 4294967296 (x).den).length c8], by kernel_rfl, ⟨⟨_, _, rfl, hu7, hv.1⟩, freshQ_mk (hu.2 _ _ rfl) hv.2⟩⟩)) ?_
    trivial
  case done1 =>
    refine fun w11 hb11 v0 h0 v1 h1 v2 h2 v3 h3 v4 h4 v5 h5 v6 h6 v7 h7 v8 h8 v9 h9 v10 h10 v11 h11 b hbf => ?_
    obtain rfl := h0; obtain rfl := h1; obtain rfl := h2; obtain rfl := h3; obtain rfl := h4; obtain rfl := h5; obtain rfl := h8; obtain rfl := h9
    obtain ⟨q6, f6⟩ := h6
    obtain ⟨q7, f7⟩ := h7
    obtain ⟨q10, f10⟩ := h10
    obtain ⟨q11, f11⟩ := h11
    simp only [Act.put, List.setIfInBounds_toArray, List.set_cons_zero, List.set_cons_succ] at hbf
    subst hbf
    replace B0 := B0.below hb11
    replace k0s := k0s.below hb11
    replace k0d := k0d.below hb11
    replace k0z := k0z.below hb11
    replace k0 := k0.below hb11
    replace BR0 := BR0.below hb11
    replace bb := bb.trans (hb11.mono bb.size)
    have hsz11 := bb.size
    have s_6 := sB
    have s_7 := sB
    have s_10 := sB
    have s_11 := sB
    obtain ⟨u11, t11, rfl, q11, d11⟩ := q11
    obtain ⟨A9, c9, rfl, _⟩ := id q11
    obtain ⟨D9, e9, rfl, _⟩ := id d11
    refine any_store (i := 12) (by kernel_rfl) rfl rfl rfl rfl rfl rfl (cells := [.bool (ngB (x).num), .slice A9 (digs 4294967296 (x).num.natAbs).length c9, .slice D9 (digs 4294967296 (x).den).length e9]) rfl BR0 rfl (by kernel_rfl) (one3 rfl rfl rfl) fun w9 hg9 B9 => ?_
    have k9 := off q11 BR0 no_ints3 hg9
    have d9 := off d11 BR0 no_ints3 hg9
    have f9 := f11.mono (show w.heap.size ≤ _ from s_11)
    have bb9 := bb.trans ((Below.refl _ _).grown hg9 bb.size (fun g hg => by injection hg with hg; omega))
    obtain ⟨C0, C1, C2, _, _, _⟩ := three B9
    refine any_done (by kernel_rfl) ?_
    go_wp2
    exact bodyPost_ret (v := .agg #[.bool (ngB (x).num), .slice A9 (digs 4294967296 (x).num.natAbs).length c9, .slice D9 (digs 4294967296 (x).den).length e9]) (by simp [results, Tryz.results57, go_sem, C0, C1, C2]) rfl ⟨_, rfl, ⟨_, _, rfl, k9, d9⟩, f9, bb9⟩
set_option maxHeartbeats 3200000 in
set_option maxRecDepth 100000 in
theorem fsum_any (a0 : Value) (qs : List Rat) (m : Nat) (w : World) (h0 : SlF .u64 4294967296 w a0 qs) (hl : (∀ q ∈ qs, lenQ q m) ∧ (m + 1) * qs.length + 1 ≤ 1000) :
    Calls Tryz.prog 12 #[a0] w (RetQn (sumq qs) w) := by
  have sl0 := h0
  obtain ⟨A0, c0, rfl, hc0, hm0⟩ := h0.shape
  unfold maxLen at hm0
  have HLE := Lib.hid hl
  go_enter Tryz.func12, Tryz.ntmps12
  go_upto_region 1 with (fail)
  obtain ⟨wx, hwx, bb, BR0, hsz⟩ := vars1 w 28 #[.bool false, .slice none 0 0, .slice none 0 0]
  rw [hwx]
  clear hwx
  have hsz0 := bb.size
  have sB := bb.size
  have lt0_2 := Blk.lt BR0
  refine flowp 2 [pq ((0 : Rat)) wx.heap.size, pn 28 #[.bool false, .slice none 0 0, .slice none 0 0] wx.heap.size] (by kernel_rfl) ?ob2 ?done2
  case ob2 =>
    refine And.intro (ob_call1 rfl Tryz.func45 (by kernel_rfl) (wt_none rfl) (ev_const _) (fun w2 u0 hb h0 => by obtain rfl := h0; exact (RatP_of0 _).mono fun e w3 h => RetQ.pd h hb.size)) ?_
    refine And.intro (ob_alloc (z := .agg #[.bool false, .slice none 0 0, .slice none 0 0]) rfl rfl (fun _ => by kernel_rfl) (fun _ _ hB h => ⟨_, rfl, hB, h⟩)) ?_
    trivial
  case done2 =>
    refine fun w1 hb1 v0 h0 v1 h1 d1 b hbf => ?_
    obtain ⟨q0, f0⟩ := h0
    obtain ⟨g2_1, rfl, hg1, B1⟩ := h1
    simp only [Act.put, List.setIfInBounds_toArray, List.set_cons_zero, List.set_cons_succ] at hbf
    subst hbf
    replace BR0 := BR0.below hb1
    replace bb := bb.trans (hb1.mono bb.size)
    have hsz1 := bb.size
    have s_0 := sB
    have BA3 := B1
    obtain ⟨u0, t0, rfl, q0, d0⟩ := q0
    obtain ⟨A3, c3, rfl, _⟩ := id q0
    obtain ⟨D3, e3, rfl, _⟩ := id d0
    refine ops_store (i := 2) rfl rfl rfl rfl rfl rfl (cells := [.bool (ngB ((0 : Rat)).num), .slice A3 (digs 4294967296 ((0 : Rat)).num.natAbs).length c3, .slice D3 (digs 4294967296 ((0 : Rat)).den).length e3]) rfl BA3 rfl (by kernel_rfl) (one3 rfl rfl rfl) fun w2 hg2 BN2 => ?_
    replace q0 := off q0 BA3 no_ints3 hg2
    replace d0 := off d0 BA3 no_ints3 hg2
    replace BR0 := BR0.grown hg2 (by omega)
    replace bb := bb.trans ((Below.refl _ _).grown hg2 bb.size (fun g hg => by injection hg with hg; omega))
    have hsz2 := bb.size
    have B3 : Blk w2 (g2_1) _ _ := BN2
    have k3s := q0
    have k3d := d0
    have k3z : IsZ w2 (.agg #[.bool (ngB ((0 : Rat)).num), .slice A3 (digs 4294967296 ((0 : Rat)).num.natAbs).length c3]) (((0 : Rat)).num) := ⟨_, rfl, k3s⟩
    have k3 : IsQ w2 (.agg #[.bool (ngB ((0 : Rat)).num), .slice A3 (digs 4294967296 ((0 : Rat)).num.natAbs).length c3, .slice D3 (digs 4294967296 ((0 : Rat)).den).length e3]) ((0 : Rat)) := ⟨_, _, rfl, k3s, k3d⟩
    refine ops_done ?_
    go_wp2
    go_loopw [9] (fun v9 wr => ∃ k : Nat, k ≤ qs.length ∧ HoldQ wr g2_1 (sumq (qs.take k)) ∧ Blk wr w.heap.size 28 #[.bool false, .slice none 0 0, .slice none 0 0] ∧ Below w.heap.size w wr ∧ g2_1 < wr.heap.size ∧ v9 = .int .i64 (k : Int)) (fun v9 _ => qs.length - (intOf v9).toNat)
    case atStart => exact ⟨0, by omega, ⟨_, _, B3, k3s, k3d⟩, BR0, bb, B3.lt, rfl⟩
    case round =>
      obtain ⟨k, hk, hH, hR, hbw, hGl, rfl⟩ := hrel
      clear B3 k3s k3d k3z k3 BR0 bb
      have BR0 := hR
      have bb := hbw
      obtain ⟨s, hs⟩ : ∃ s, s = sumq (qs.take k) := ⟨_, rfl⟩
      rw [← hs] at hH
      have HS := Lib.hid hs
      clear hs hR hbw
      have ls : lenQ s 1000 := by rw [HS.out]; exact (lenQ_sumq (fun q hq => HLE.out.1 q (List.mem_of_mem_take hq))).mono (by have := HLE.out.2; rw [List.length_take, Nat.min_eq_left hk]; exact Nat.le_trans (Nat.add_le_add_right (Nat.mul_le_mul_left _ hk) _) this)
      obtain ⟨u3, t3, B3, k3s, k3d⟩ := hH
      obtain ⟨A3, c3, rfl, _⟩ := id k3s
      obtain ⟨D3, e3, rfl, _⟩ := id k3d
      have k3z : IsZ wr (.agg #[.bool (ngB (s).num), .slice A3 (digs 4294967296 (s).num.natAbs).length c3]) (s).num := ⟨_, rfl, k3s⟩
      have k3 : IsQ wr (.agg #[.bool (ngB (s).num), .slice A3 (digs 4294967296 (s).num.natAbs).length c3, .slice D3 (digs 4294967296 (s).den).length e3]) (s) := ⟨_, _, rfl, k3s, k3d⟩
      have hszr := bb.size
      by_cases hlt : k < qs.length
      · obtain ⟨q, hq0_⟩ : ∃ q, qs[k]? = some q := ⟨_, List.getElem?_eq_getElem hlt⟩
        obtain ⟨g0_, o0_, ue0, te0, hA0_, _, e00, e01, e02, es0, ed0⟩ := (sl0.below bb).at_ hq0_
        subst hA0_
        have HQ0 := Lib.hid hq0_
        clear hq0_
        obtain ⟨Ae0, ce0, rfl, _⟩ := id es0
        obtain ⟨De0, ee0, rfl, _⟩ := id ed0
        have ke0 : IsQ wr (.agg #[.bool (ngB q.num), .slice Ae0 (digs 4294967296 q.num.natAbs).length ce0, .slice De0 (digs 4294967296 q.den).length ee0]) q := ⟨_, _, rfl, es0, ed0⟩
        have sB := bb.size
        go_upto_region 4 with (fail)
        have lt3_2 := Blk.lt BR0
        have lt3_3 := Blk.lt B3
        refine flowp 3 [Pd.eq (.pointer (some ⟨g0_, o0_ + k * 3, none⟩)), Pd.eq (.agg #[.bool (ngB q.num), .slice Ae0 (digs 4294967296 q.num.natAbs).length ce0, .slice De0 (digs 4294967296 q.den).length ee0]), pn 28 #[.bool false, .slice none 0 0, .slice none 0 0] wr.heap.size] (by kernel_rfl) ?ob3 ?done3
        case ob3 =>
          refine And.intro (ob_indexAddr rfl (wt_none rfl) (ev_far rfl rfl) (ev_far rfl rfl) (fun _ _ _ hx hy => ⟨_, by rw [hx, hy]; exact index3 Tryz.underlying22 (by kernel_rfl) hlt _, rfl⟩)) ?_
          refine And.intro (ob_load rfl (wt_none rfl) (ev_dep (j := 0) (by kernel_rfl) rfl rfl) (fun w2 hb => load3 Tryz.underlying28 rfl (by kernel_rfl) ((hb.cell (World.block_lt_of_cell? wr _ e00)).trans e00) ((hb.cell (World.block_lt_of_cell? wr _ e01)).trans e01) ((hb.cell (World.block_lt_of_cell? wr _ e02)).trans e02)) (fun _ _ => rfl)) ?_
          refine And.intro (ob_alloc (z := .agg #[.bool false, .slice none 0 0, .slice none 0 0]) rfl rfl (fun _ => by kernel_rfl) (fun _ _ hB h => ⟨_, rfl, hB, h⟩)) ?_
          trivial
        case done3 =>
          refine fun w4 hb4 v0 h0 v1 h1 v2 h2 d2 b hbf => ?_
          obtain rfl := h0; obtain rfl := h1
          obtain ⟨g3_2, rfl, hg2, B2⟩ := h2
          simp only [Act.put, List.setIfInBounds_toArray, List.set_cons_zero, List.set_cons_succ] at hbf
          subst hbf
          replace BR0 := BR0.below hb4
          replace B3 := B3.below hb4
          replace k3s := k3s.below hb4
          replace k3d := k3d.below hb4
          replace k3z := k3z.below hb4
          replace k3 := k3.below hb4
          replace es0 := es0.below hb4
          replace ed0 := ed0.below hb4
          replace bb := bb.trans (hb4.mono bb.size)
          have hsz4 := bb.size
          have BA5 := B2
          have q1 := es0
          have d1 := ed0
          refine ops_store (i := 3) rfl rfl rfl rfl rfl rfl (cells := [.bool (ngB (q).num), .slice Ae0 (digs 4294967296 (q).num.natAbs).length ce0, .slice De0 (digs 4294967296 (q).den).length ee0]) rfl BA5 rfl (by kernel_rfl) (one3 rfl rfl rfl) fun w5 hg5 BN5 => ?_
          replace q1 := off q1 BA5 no_ints3 hg5
          replace d1 := off d1 BA5 no_ints3 hg5
          replace BR0 := BR0.grown hg5 (by omega)
          replace k3s := off k3s BA5 no_ints3 hg5
          replace k3d := off k3d BA5 no_ints3 hg5
          replace k3z : IsZ w5 (.agg #[.bool (ngB (s).num), .slice A3 (digs 4294967296 (s).num.natAbs).length c3]) ((s).num) := ⟨_, rfl, k3s⟩
          replace k3 : IsQ w5 (.agg #[.bool (ngB (s).num), .slice A3 (digs 4294967296 (s).num.natAbs).length c3, .slice D3 (digs 4294967296 (s).den).length e3]) (s) := ⟨_, _, rfl, k3s, k3d⟩
          replace B3 := B3.grown hg5 (by omega)
          replace bb := bb.trans ((Below.refl _ _).grown hg5 bb.size (fun g hg => by injection hg with hg; omega))
          have hsz5 := bb.size
          have Be0 : Blk w5 (g3_2) _ _ := BN5
          have ke0s := q1
          have ke0d := d1
          have ke0z : IsZ w5 (.agg #[.bool (ngB (q).num), .slice Ae0 (digs 4294967296 (q).num.natAbs).length ce0]) ((q).num) := ⟨_, rfl, ke0s⟩
          have ke0 : IsQ w5 (.agg #[.bool (ngB (q).num), .slice Ae0 (digs 4294967296 (q).num.natAbs).length ce0, .slice De0 (digs 4294967296 (q).den).length ee0]) (q) := ⟨_, _, rfl, ke0s, ke0d⟩
          refine ops_done ?_
          have lq : lenQ q 1000 := (HLE.out.1 q (List.mem_of_getElem? HQ0.out)).mono (by have := HLE.out.2; have := Nat.le_trans (Nat.le_mul_of_pos_right (m + 1) (show 0 < qs.length by omega)) (Nat.le_of_succ_le this); omega)
          have sB := bb.size
          go_upto_region 5 with (fail)
          refine flowp 3 [Pd.eq (.agg #[.bool (ngB (s).num), .slice A3 (digs 4294967296 (s).num.natAbs).length c3, .slice D3 (digs 4294967296 (s).den).length e3]), Pd.eq (.agg #[.bool (ngB (q).num), .slice Ae0 (digs 4294967296 (q).num.natAbs).length ce0, .slice De0 (digs 4294967296 (q).den).length ee0]), pq ((s + q)) w5.heap.size] (by kernel_rfl) ?ob4 ?done4
          case ob4 =>
            refine And.intro (ob_load rfl (wt_none rfl) (ev_far rfl rfl) (fun w2 hb => run_loadAll Tryz.underlying28 rfl (by kernel_rfl) (B3.below hb)) (fun _ _ => rfl)) ?_
            refine And.intro (ob_load rfl (wt_none rfl) (ev_far rfl rfl) (fun w2 hb => run_loadAll Tryz.underlying28 rfl (by kernel_rfl) (Be0.below hb)) (fun _ _ => rfl)) ?_
            refine And.intro (ob_call2 rfl Tryz.func46 (by kernel_rfl) (wt_none rfl) (ev_dep (j := 0) (by kernel_rfl) rfl rfl) (ev_dep (j := 1) (by kernel_rfl) rfl rfl) (fun w2 u0 u1 hb h0 h1 => by obtain rfl := h0; obtain rfl := h1; exact (add8_any _ s _ q _ (k3.below hb) (ke0.below hb) (ls.mono (by decide)) (lq.mono (by decide))).mono fun e w3 h => RetQ.pd h hb.size)) ?_
            trivial
          case done4 =>
            refine fun w6 hb6 v0 h0 v1 h1 v2 h2 b hbf => ?_
            obtain rfl := h0; obtain rfl := h1
            obtain ⟨q2, f2⟩ := h2
            simp only [Act.put, List.setIfInBounds_toArray, List.set_cons_zero, List.set_cons_succ] at hbf
            subst hbf
            replace BR0 := BR0.below hb6
            replace B3 := B3.below hb6
            replace k3s := k3s.below hb6
            replace k3d := k3d.below hb6
            replace k3z := k3z.below hb6
            replace k3 := k3.below hb6
            replace Be0 := Be0.below hb6
            replace ke0s := ke0s.below hb6
            replace ke0d := ke0d.below hb6
            replace ke0z := ke0z.below hb6
            replace ke0 := ke0.below hb6
            replace bb := bb.trans (hb6.mono bb.size)
            have hsz6 := bb.size
            have s_2 := sB
            obtain ⟨u2, t2, rfl, q2, d2⟩ := q2
            obtain ⟨A4, c4, rfl, _⟩ := id q2
            obtain ⟨D4, e4, rfl, _⟩ := id d2
            refine ops_store (i := 3) rfl rfl rfl rfl rfl rfl (cells := [.bool (ngB ((s + q)).num), .slice A4 (digs 4294967296 ((s + q)).num.natAbs).length c4, .slice D4 (digs 4294967296 ((s + q)).den).length e4]) rfl B3 rfl (by kernel_rfl) (one3 rfl rfl rfl) fun w7 hg7 BN7 => ?_
            replace q2 := off q2 B3 no_ints3 hg7
            replace d2 := off d2 B3 no_ints3 hg7
            replace BR0 := BR0.grown hg7 (by omega)
            replace ke0s := off ke0s B3 no_ints3 hg7
            replace ke0d := off ke0d B3 no_ints3 hg7
            replace ke0z : IsZ w7 (.agg #[.bool (ngB (q).num), .slice Ae0 (digs 4294967296 (q).num.natAbs).length ce0]) ((q).num) := ⟨_, rfl, ke0s⟩
            replace ke0 : IsQ w7 (.agg #[.bool (ngB (q).num), .slice Ae0 (digs 4294967296 (q).num.natAbs).length ce0, .slice De0 (digs 4294967296 (q).den).length ee0]) (q) := ⟨_, _, rfl, ke0s, ke0d⟩
            replace Be0 := Be0.grown hg7 (by omega)
            replace bb := bb.trans ((Below.refl _ _).grown hg7 bb.size (fun g hg => by injection hg with hg; omega))
            have hsz7 := bb.size
            have B4 : Blk w7 (g2_1) _ _ := BN7
            have k4s := q2
            have k4d := d2
            have k4z : IsZ w7 (.agg #[.bool (ngB ((s + q)).num), .slice A4 (digs 4294967296 ((s + q)).num.natAbs).length c4]) (((s + q)).num) := ⟨_, rfl, k4s⟩
            have k4 : IsQ w7 (.agg #[.bool (ngB ((s + q)).num), .slice A4 (digs 4294967296 ((s + q)).num.natAbs).length c4, .slice D4 (digs 4294967296 ((s + q)).den).length e4]) ((s + q)) := ⟨_, _, rfl, k4s, k4d⟩
            refine ops_done ?_
            have HN : Hid (s + q = sumq (qs.take (k + 1))) := by show _ = _; rw [take_snoc HQ0.out, sumq_snoc, HS.out]
            go_wp2
            go_roundw
            case rel => exact ⟨k + 1, by omega, by rw [← HN.out]; exact ⟨_, _, B4, k4s, k4d⟩, BR0, bb, B4.lt, by go_num⟩
            case measure => simp [intOf]; omega
      · have HN : Hid (s = sumq qs) := by show _ = _; rw [HS.out, List.take_of_length_le (by omega)]
        have sB := bb.size
        go_upto_region 7 with (fail)
        refine flowp 1 [Pd.eq (.agg #[.bool (ngB (s).num), .slice A3 (digs 4294967296 (s).num.natAbs).length c3, .slice D3 (digs 4294967296 (s).den).length e3])] (by kernel_rfl) ?ob5 ?done5
        case ob5 =>
          refine And.intro (ob_load rfl (wt_none rfl) (ev_far rfl rfl) (fun w2 hb => run_loadAll Tryz.underlying28 rfl (by kernel_rfl) (B3.below hb)) (fun _ _ => rfl)) ?_
          trivial
        case done5 =>
          refine fun w4 hb4 v0 h0 b hbf => ?_
          obtain rfl := h0
          simp only [Act.put, List.setIfInBounds_toArray, List.set_cons_zero, List.set_cons_succ] at hbf
          subst hbf
          replace BR0 := BR0.below hb4
          replace B3 := B3.below hb4
          replace k3s := k3s.below hb4
          replace k3d := k3d.below hb4
          replace k3z := k3z.below hb4
          replace k3 := k3.below hb4
          replace bb := bb.trans (hb4.mono bb.size)
          have hsz4 := bb.size
          refine ops_store (i := 1) rfl rfl rfl rfl rfl rfl (cells := [.bool (ngB (s).num), .slice A3 (digs 4294967296 (s).num.natAbs).length c3, .slice D3 (digs 4294967296 (s).den).length e3]) rfl BR0 rfl (by kernel_rfl) (one3 rfl rfl rfl) fun w9 hg9 B9 => ?_
          have k9 := off k3s BR0 no_ints3 hg9
          have d9 := off k3d BR0 no_ints3 hg9
          have bb9 := bb.trans ((Below.refl _ _).grown hg9 bb.size (fun g hg => by injection hg with hg; omega))
          obtain ⟨C0, C1, C2, _, _, _⟩ := three B9
          refine ops_done ?_
          go_wp2
          rw [← HN.out]
          exact bodyPost_ret (v := .agg #[.bool (ngB (s).num), .slice A3 (digs 4294967296 (s).num.natAbs).length c3, .slice D3 (digs 4294967296 (s).den).length e3]) (by simp [results, Tryz.results12, go_sem, C0, C1, C2]) rfl ⟨_, rfl, ⟨_, _, rfl, k9, d9⟩, bb9⟩
set_option maxHeartbeats 3200000 in
set_option maxRecDepth 100000 in
theorem fprod_any (a0 : Value) (qs : List Rat) (m : Nat) (w : World) (h0 : SlF .u64 4294967296 w a0 qs) (hl : (∀ q ∈ qs, lenQ q m) ∧ m * qs.length + 1 ≤ 1000) :
    Calls Tryz.prog 15 #[a0] w (RetQn (prodq qs) w) := by
  have sl0 := h0
  obtain ⟨A0, c0, rfl, hc0, hm0⟩ := h0.shape
  unfold maxLen at hm0
  have HLE := Lib.hid hl
  go_enter Tryz.func15, Tryz.ntmps15
  go_upto_region 1 with (fail)
  obtain ⟨wx, hwx, bb, BR0, hsz⟩ := vars1 w 28 #[.bool false, .slice none 0 0, .slice none 0 0]
  rw [hwx]
  clear hwx
  have hsz0 := bb.size
  have sB := bb.size
  have lt0_2 := Blk.lt BR0
  refine flowp 2 [pq ((1 : Rat)) wx.heap.size, pn 28 #[.bool false, .slice none 0 0, .slice none 0 0] wx.heap.size] (by kernel_rfl) ?ob6 ?done6
  case ob6 =>
    refine And.intro (ob_call1 rfl Tryz.func45 (by kernel_rfl) (wt_none rfl) (ev_const _) (fun w2 u0 hb h0 => by obtain rfl := h0; exact (RatP_of1 _).mono fun e w3 h => RetQ.pd h hb.size)) ?_
    refine And.intro (ob_alloc (z := .agg #[.bool false, .slice none 0 0, .slice none 0 0]) rfl rfl (fun _ => by kernel_rfl) (fun _ _ hB h => ⟨_, rfl, hB, h⟩)) ?_
    trivial
  case done6 =>
    refine fun w1 hb1 v0 h0 v1 h1 d1 b hbf => ?_
    obtain ⟨q0, f0⟩ := h0
    obtain ⟨g6_1, rfl, hg1, B1⟩ := h1
    simp only [Act.put, List.setIfInBounds_toArray, List.set_cons_zero, List.set_cons_succ] at hbf
    subst hbf
    replace BR0 := BR0.below hb1
    replace bb := bb.trans (hb1.mono bb.size)
    have hsz1 := bb.size
    have s_0 := sB
    have BA3 := B1
    obtain ⟨u0, t0, rfl, q0, d0⟩ := q0
    obtain ⟨A3, c3, rfl, _⟩ := id q0
    obtain ⟨D3, e3, rfl, _⟩ := id d0
    refine ops_store (i := 2) rfl rfl rfl rfl rfl rfl (cells := [.bool (ngB ((1 : Rat)).num), .slice A3 (digs 4294967296 ((1 : Rat)).num.natAbs).length c3, .slice D3 (digs 4294967296 ((1 : Rat)).den).length e3]) rfl BA3 rfl (by kernel_rfl) (one3 rfl rfl rfl) fun w2 hg2 BN2 => ?_
    replace q0 := off q0 BA3 no_ints3 hg2
    replace d0 := off d0 BA3 no_ints3 hg2
    replace BR0 := BR0.grown hg2 (by omega)
    replace bb := bb.trans ((Below.refl _ _).grown hg2 bb.size (fun g hg => by injection hg with hg; omega))
    have hsz2 := bb.size
    have B3 : Blk w2 (g6_1) _ _ := BN2
    have k3s := q0
    have k3d := d0
    have k3z : IsZ w2 (.agg #[.bool (ngB ((1 : Rat)).num), .slice A3 (digs 4294967296 ((1 : Rat)).num.natAbs).length c3]) (((1 : Rat)).num) := ⟨_, rfl, k3s⟩
    have k3 : IsQ w2 (.agg #[.bool (ngB ((1 : Rat)).num), .slice A3 (digs 4294967296 ((1 : Rat)).num.natAbs).length c3, .slice D3 (digs 4294967296 ((1 : Rat)).den).length e3]) ((1 : Rat)) := ⟨_, _, rfl, k3s, k3d⟩
    refine ops_done ?_
    go_wp2
    go_loopw [9] (fun v9 wr => ∃ k : Nat, k ≤ qs.length ∧ HoldQ wr g6_1 (prodq (qs.take k)) ∧ Blk wr w.heap.size 28 #[.bool false, .slice none 0 0, .slice none 0 0] ∧ Below w.heap.size w wr ∧ g6_1 < wr.heap.size ∧ v9 = .int .i64 (k : Int)) (fun v9 _ => qs.length - (intOf v9).toNat)
    case atStart => exact ⟨0, by omega, ⟨_, _, B3, k3s, k3d⟩, BR0, bb, B3.lt, rfl⟩
    case round =>
      obtain ⟨k, hk, hH, hR, hbw, hGl, rfl⟩ := hrel
      clear B3 k3s k3d k3z k3 BR0 bb
      have BR0 := hR
      have bb := hbw
      obtain ⟨s, hs⟩ : ∃ s, s = prodq (qs.take k) := ⟨_, rfl⟩
      rw [← hs] at hH
      have HS := Lib.hid hs
      clear hs hR hbw
      have ls : lenQ s 1000 := by rw [HS.out]; exact (lenQ_prodq (fun q hq => HLE.out.1 q (List.mem_of_mem_take hq))).mono (by have := HLE.out.2; rw [List.length_take, Nat.min_eq_left hk]; exact Nat.le_trans (Nat.add_le_add_right (Nat.mul_le_mul_left _ hk) _) this)
      obtain ⟨u3, t3, B3, k3s, k3d⟩ := hH
      obtain ⟨A3, c3, rfl, _⟩ := id k3s
      obtain ⟨D3, e3, rfl, _⟩ := id k3d
      have k3z : IsZ wr (.agg #[.bool (ngB (s).num), .slice A3 (digs 4294967296 (s).num.natAbs).length c3]) (s).num := ⟨_, rfl, k3s⟩
      have k3 : IsQ wr (.agg #[.bool (ngB (s).num), .slice A3 (digs 4294967296 (s).num.natAbs).length c3, .slice D3 (digs 4294967296 (s).den).length e3]) (s) := ⟨_, _, rfl, k3s, k3d⟩
      have hszr := bb.size
      by_cases hlt : k < qs.length
      · obtain ⟨q, hq0_⟩ : ∃ q, qs[k]? = some q := ⟨_, List.getElem?_eq_getElem hlt⟩
        obtain ⟨g0_, o0_, ue0, te0, hA0_, _, e00, e01, e02, es0, ed0⟩ := (sl0.below bb).at_ hq0_
        subst hA0_
        have HQ0 := Lib.hid hq0_
        clear hq0_
        obtain ⟨Ae0, ce0, rfl, _⟩ := id es0
        obtain ⟨De0, ee0, rfl, _⟩ := id ed0
        have ke0 : IsQ wr (.agg #[.bool (ngB q.num), .slice Ae0 (digs 4294967296 q.num.natAbs).length ce0, .slice De0 (digs 4294967296 q.den).length ee0]) q := ⟨_, _, rfl, es0, ed0⟩
        have sB := bb.size
        go_upto_region 4 with (fail)
        have lt3_2 := Blk.lt BR0
        have lt3_3 := Blk.lt B3
        refine flowp 3 [Pd.eq (.pointer (some ⟨g0_, o0_ + k * 3, none⟩)), Pd.eq (.agg #[.bool (ngB q.num), .slice Ae0 (digs 4294967296 q.num.natAbs).length ce0, .slice De0 (digs 4294967296 q.den).length ee0]), pn 28 #[.bool false, .slice none 0 0, .slice none 0 0] wr.heap.size] (by kernel_rfl) ?ob7 ?done7
        case ob7 =>
          refine And.intro (ob_indexAddr rfl (wt_none rfl) (ev_far rfl rfl) (ev_far rfl rfl) (fun _ _ _ hx hy => ⟨_, by rw [hx, hy]; exact index3 Tryz.underlying22 (by kernel_rfl) hlt _, rfl⟩)) ?_
          refine And.intro (ob_load rfl (wt_none rfl) (ev_dep (j := 0) (by kernel_rfl) rfl rfl) (fun w2 hb => load3 Tryz.underlying28 rfl (by kernel_rfl) ((hb.cell (World.block_lt_of_cell? wr _ e00)).trans e00) ((hb.cell (World.block_lt_of_cell? wr _ e01)).trans e01) ((hb.cell (World.block_lt_of_cell? wr _ e02)).trans e02)) (fun _ _ => rfl)) ?_
          refine And.intro (ob_alloc (z := .agg #[.bool false, .slice none 0 0, .slice none 0 0]) rfl rfl (fun _ => by kernel_rfl) (fun _ _ hB h => ⟨_, rfl, hB, h⟩)) ?_
          trivial
        case done7 =>
          refine fun w4 hb4 v0 h0 v1 h1 v2 h2 d2 b hbf => ?_
          obtain rfl := h0; obtain rfl := h1
          obtain ⟨g7_2, rfl, hg2, B2⟩ := h2
          simp only [Act.put, List.setIfInBounds_toArray, List.set_cons_zero, List.set_cons_succ] at hbf
          subst hbf
          replace BR0 := BR0.below hb4
          replace B3 := B3.below hb4
          replace k3s := k3s.below hb4
          replace k3d := k3d.below hb4
          replace k3z := k3z.below hb4
          replace k3 := k3.below hb4
          replace es0 := es0.below hb4
          replace ed0 := ed0.below hb4
          replace bb := bb.trans (hb4.mono bb.size)
          have hsz4 := bb.size
          have BA5 := B2
          have q1 := es0
          have d1 := ed0
          refine ops_store (i := 3) rfl rfl rfl rfl rfl rfl (cells := [.bool (ngB (q).num), .slice Ae0 (digs 4294967296 (q).num.natAbs).length ce0, .slice De0 (digs 4294967296 (q).den).length ee0]) rfl BA5 rfl (by kernel_rfl) (one3 rfl rfl rfl) fun w5 hg5 BN5 => ?_
          replace q1 := off q1 BA5 no_ints3 hg5
          replace d1 := off d1 BA5 no_ints3 hg5
          replace BR0 := BR0.grown hg5 (by omega)
          replace k3s := off k3s BA5 no_ints3 hg5
          replace k3d := off k3d BA5 no_ints3 hg5
          replace k3z : IsZ w5 (.agg #[.bool (ngB (s).num), .slice A3 (digs 4294967296 (s).num.natAbs).length c3]) ((s).num) := ⟨_, rfl, k3s⟩
          replace k3 : IsQ w5 (.agg #[.bool (ngB (s).num), .slice A3 (digs 4294967296 (s).num.natAbs).length c3, .slice D3 (digs 4294967296 (s).den).length e3]) (s) := ⟨_, _, rfl, k3s, k3d⟩
          replace B3 := B3.grown hg5 (by omega)
          replace bb := bb.trans ((Below.refl _ _).grown hg5 bb.size (fun g hg => by injection hg with hg; omega))
          have hsz5 := bb.size
          have Be0 : Blk w5 (g7_2) _ _ := BN5
          have ke0s := q1
          have ke0d := d1
          have ke0z : IsZ w5 (.agg #[.bool (ngB (q).num), .slice Ae0 (digs 4294967296 (q).num.natAbs).length ce0]) ((q).num) := ⟨_, rfl, ke0s⟩
          have ke0 : IsQ w5 (.agg #[.bool (ngB (q).num), .slice Ae0 (digs 4294967296 (q).num.natAbs).length ce0, .slice De0 (digs 4294967296 (q).den).length ee0]) (q) := ⟨_, _, rfl, ke0s, ke0d⟩
          refine ops_done ?_
          have lq : lenQ q 1000 := (HLE.out.1 q (List.mem_of_getElem? HQ0.out)).mono (by have := HLE.out.2; have := Nat.le_trans (Nat.le_mul_of_pos_right (m) (show 0 < qs.length by omega)) (Nat.le_of_succ_le this); omega)
          have sB := bb.size
          go_upto_region 5 with (fail)
          refine flowp 3 [Pd.eq (.agg #[.bool (ngB (s).num), .slice A3 (digs 4294967296 (s).num.natAbs).length c3, .slice D3 (digs 4294967296 (s).den).length e3]), Pd.eq (.agg #[.bool (ngB (q).num), .slice Ae0 (digs 4294967296 (q).num.natAbs).length ce0, .slice De0 (digs 4294967296 (q).den).length ee0]), pq ((s * q)) w5.heap.size] (by kernel_rfl) ?ob8 ?done8
          case ob8 =>
            refine And.intro (ob_load rfl (wt_none rfl) (ev_far rfl rfl) (fun w2 hb => run_loadAll Tryz.underlying28 rfl (by kernel_rfl) (B3.below hb)) (fun _ _ => rfl)) ?_
            refine And.intro (ob_load rfl (wt_none rfl) (ev_far rfl rfl) (fun w2 hb => run_loadAll Tryz.underlying28 rfl (by kernel_rfl) (Be0.below hb)) (fun _ _ => rfl)) ?_
            refine And.intro (ob_call2 rfl Tryz.func49 (by kernel_rfl) (wt_none rfl) (ev_dep (j := 0) (by kernel_rfl) rfl rfl) (ev_dep (j := 1) (by kernel_rfl) rfl rfl) (fun w2 u0 u1 hb h0 h1 => by obtain rfl := h0; obtain rfl := h1; exact (mul8_any _ s _ q _ (k3.below hb) (ke0.below hb) (ls.mono (by decide)) (lq.mono (by decide))).mono fun e w3 h => RetQ.pd h hb.size)) ?_
            trivial
          case done8 =>
            refine fun w6 hb6 v0 h0 v1 h1 v2 h2 b hbf => ?_
            obtain rfl := h0; obtain rfl := h1
            obtain ⟨q2, f2⟩ := h2
            simp only [Act.put, List.setIfInBounds_toArray, List.set_cons_zero, List.set_cons_succ] at hbf
            subst hbf
            replace BR0 := BR0.below hb6
            replace B3 := B3.below hb6
            replace k3s := k3s.below hb6
            replace k3d := k3d.below hb6
            replace k3z := k3z.below hb6
            replace k3 := k3.below hb6
            replace Be0 := Be0.below hb6
            replace ke0s := ke0s.below hb6
            replace ke0d := ke0d.below hb6
            replace ke0z := ke0z.below hb6
            replace ke0 := ke0.below hb6
            replace bb := bb.trans (hb6.mono bb.size)
            have hsz6 := bb.size
            have s_2 := sB
            obtain ⟨u2, t2, rfl, q2, d2⟩ := q2
            obtain ⟨A4, c4, rfl, _⟩ := id q2
            obtain ⟨D4, e4, rfl, _⟩ := id d2
            refine ops_store (i := 3) rfl rfl rfl rfl rfl rfl (cells := [.bool (ngB ((s * q)).num), .slice A4 (digs 4294967296 ((s * q)).num.natAbs).length c4, .slice D4 (digs 4294967296 ((s * q)).den).length e4]) rfl B3 rfl (by kernel_rfl) (one3 rfl rfl rfl) fun w7 hg7 BN7 => ?_
            replace q2 := off q2 B3 no_ints3 hg7
            replace d2 := off d2 B3 no_ints3 hg7
            replace BR0 := BR0.grown hg7 (by omega)
            replace ke0s := off ke0s B3 no_ints3 hg7
            replace ke0d := off ke0d B3 no_ints3 hg7
            replace ke0z : IsZ w7 (.agg #[.bool (ngB (q).num), .slice Ae0 (digs 4294967296 (q).num.natAbs).length ce0]) ((q).num) := ⟨_, rfl, ke0s⟩
            replace ke0 : IsQ w7 (.agg #[.bool (ngB (q).num), .slice Ae0 (digs 4294967296 (q).num.natAbs).length ce0, .slice De0 (digs 4294967296 (q).den).length ee0]) (q) := ⟨_, _, rfl, ke0s, ke0d⟩
            replace Be0 := Be0.grown hg7 (by omega)
            replace bb := bb.trans ((Below.refl _ _).grown hg7 bb.size (fun g hg => by injection hg with hg; omega))
            have hsz7 := bb.size
            have B4 : Blk w7 (g6_1) _ _ := BN7
            have k4s := q2
            have k4d := d2
            have k4z : IsZ w7 (.agg #[.bool (ngB ((s * q)).num), .slice A4 (digs 4294967296 ((s * q)).num.natAbs).length c4]) (((s * q)).num) := ⟨_, rfl, k4s⟩
            have k4 : IsQ w7 (.agg #[.bool (ngB ((s * q)).num), .slice A4 (digs 4294967296 ((s * q)).num.natAbs).length c4, .slice D4 (digs 4294967296 ((s * q)).den).length e4]) ((s * q)) := ⟨_, _, rfl, k4s, k4d⟩
            refine ops_done ?_
            have HN : Hid (s * q = prodq (qs.take (k + 1))) := by show _ = _; rw [take_snoc HQ0.out, prodq_snoc, HS.out]
            go_wp2
            go_roundw
            case rel => exact ⟨k + 1, by omega, by rw [← HN.out]; exact ⟨_, _, B4, k4s, k4d⟩, BR0, bb, B4.lt, by go_num⟩
            case measure => simp [intOf]; omega
      · have HN : Hid (s = prodq qs) := by show _ = _; rw [HS.out, List.take_of_length_le (by omega)]
        have sB := bb.size
        go_upto_region 7 with (fail)
        refine flowp 1 [Pd.eq (.agg #[.bool (ngB (s).num), .slice A3 (digs 4294967296 (s).num.natAbs).length c3, .slice D3 (digs 4294967296 (s).den).length e3])] (by kernel_rfl) ?ob9 ?done9
        case ob9 =>
          refine And.intro (ob_load rfl (wt_none rfl) (ev_far rfl rfl) (fun w2 hb => run_loadAll Tryz.underlying28 rfl (by kernel_rfl) (B3.below hb)) (fun _ _ => rfl)) ?_
          trivial
        case done9 =>
          refine fun w4 hb4 v0 h0 b hbf => ?_
          obtain rfl := h0
          simp only [Act.put, List.setIfInBounds_toArray, List.set_cons_zero, List.set_cons_succ] at hbf
          subst hbf
          replace BR0 := BR0.below hb4
          replace B3 := B3.below hb4
          replace k3s := k3s.below hb4
          replace k3d := k3d.below hb4
          replace k3z := k3z.below hb4
          replace k3 := k3.below hb4
          replace bb := bb.trans (hb4.mono bb.size)
          have hsz4 := bb.size
          refine ops_store (i := 1) rfl rfl rfl rfl rfl rfl (cells := [.bool (ngB (s).num), .slice A3 (digs 4294967296 (s).num.natAbs).length c3, .slice D3 (digs 4294967296 (s).den).length e3]) rfl BR0 rfl (by kernel_rfl) (one3 rfl rfl rfl) fun w9 hg9 B9 => ?_
          have k9 := off k3s BR0 no_ints3 hg9
          have d9 := off k3d BR0 no_ints3 hg9
          have bb9 := bb.trans ((Below.refl _ _).grown hg9 bb.size (fun g hg => by injection hg with hg; omega))
          obtain ⟨C0, C1, C2, _, _, _⟩ := three B9
          refine ops_done ?_
          go_wp2
          rw [← HN.out]
          exact bodyPost_ret (v := .agg #[.bool (ngB (s).num), .slice A3 (digs 4294967296 (s).num.natAbs).length c3, .slice D3 (digs 4294967296 (s).den).length e3]) (by simp [results, Tryz.results15, go_sem, C0, C1, C2]) rfl ⟨_, rfl, ⟨_, _, rfl, k9, d9⟩, bb9⟩
set_option maxHeartbeats 1600000 in
set_option maxRecDepth 100000 in
theorem fnot_new (a0 : Value) (q : Rat) (w : World) (h0 : IsQ w a0 q) (hl : lenQ q 1000) :
    Calls Tryz.prog 19 #[a0] w (RetQ (1 - q) w) := by
  obtain ⟨u0, t0, rfl, s0, r0⟩ := h0
  obtain ⟨A0, c0, rfl, _⟩ := id s0
  obtain ⟨D0, e0, rfl, _⟩ := id r0
  have HL1 : Hid (lenQ (1 : Rat) 1000) := (lenQ.mono (m := 1) ⟨digs_len_le (k := 1) (by omega) (by decide +kernel), digs_len_le (k := 1) (by omega) (by decide +kernel)⟩ (by decide))
  go_enter Tryz.func19, Tryz.ntmps19
  go_upto_region 1 with (fail)
  obtain ⟨wx, hwx, bb, B0, BR0, hsz⟩ := vars2 w 28 28 #[.bool (ngB (q).num), .slice A0 (digs 4294967296 (q).num.natAbs).length c0, .slice D0 (digs 4294967296 (q).den).length e0] #[.bool false, .slice none 0 0, .slice none 0 0]
  rw [hwx]
  clear hwx
  have k0s := s0.below bb
  have k0d := r0.below bb
  have k0z : IsZ wx (.agg #[.bool (ngB (q).num), .slice A0 (digs 4294967296 (q).num.natAbs).length c0]) (q).num := ⟨_, rfl, k0s⟩
  have k0 : IsQ wx (.agg #[.bool (ngB (q).num), .slice A0 (digs 4294967296 (q).num.natAbs).length c0, .slice D0 (digs 4294967296 (q).den).length e0]) (q) := ⟨_, _, rfl, k0s, k0d⟩
  have hsz0 := bb.size
  have sB := bb.size
  refine flow 3 [pq ((1 : Rat)) wx.heap.size, Pd.eq (.agg #[.bool (ngB (q).num), .slice A0 (digs 4294967296 (q).num.natAbs).length c0, .slice D0 (digs 4294967296 (q).den).length e0]), pq (1 - q) wx.heap.size] (by kernel_rfl) (by kernel_rfl) ?ob10 ?done10
  case ob10 =>
    refine And.intro (ob_call1 rfl Tryz.func45 (by kernel_rfl) (wt_none rfl) (ev_const _) (fun w2 u0 hb h0 => by obtain rfl := h0; exact (RatP_of1 _).mono fun e w3 h => RetQ.pd h hb.size)) ?_
    refine And.intro (ob_load rfl (wt_none rfl) (ev_far rfl rfl) (fun w2 hb => run_loadAll Tryz.underlying28 rfl (by kernel_rfl) (B0.drew.below hb)) (fun _ _ => rfl)) ?_
    refine And.intro (ob_call2 rfl Tryz.func53 (by kernel_rfl) (wt_none rfl) (ev_dep (j := 0) (by kernel_rfl) rfl rfl) (ev_dep (j := 1) (by kernel_rfl) rfl rfl) (fun w2 u0 u1 hb h0 h1 => by obtain rfl := h1; exact (sub8_any _ 1 _ q _ h0.1 (k0.drew.below hb) HL1.out hl).mono fun e w3 h => RetQ.pd h hb.size)) ?_
    trivial
  case done10 =>
    refine fun w11 hb11 v0 h0 v1 h1 v2 h2 b hbf => ?_
    obtain rfl := h1
    obtain ⟨q0, f0⟩ := h0
    obtain ⟨q2, f2⟩ := h2
    simp only [Act.put, List.setIfInBounds_toArray, List.set_cons_zero, List.set_cons_succ] at hbf
    subst hbf
    replace B0 := B0.below hb11
    replace k0s := k0s.below hb11
    replace k0d := k0d.below hb11
    replace k0z := k0z.below hb11
    replace k0 := k0.below hb11
    replace BR0 := BR0.below hb11
    replace bb := bb.trans (hb11.mono bb.size)
    have hsz11 := bb.size
    have s_0 := sB
    have s_2 := sB
    obtain ⟨u2, t2, rfl, q2, d2⟩ := q2
    obtain ⟨A9, c9, rfl, _⟩ := id q2
    obtain ⟨D9, e9, rfl, _⟩ := id d2
    refine any_store (i := 3) (by kernel_rfl) rfl rfl rfl rfl rfl rfl (cells := [.bool (ngB (1 - q).num), .slice A9 (digs 4294967296 (1 - q).num.natAbs).length c9, .slice D9 (digs 4294967296 (1 - q).den).length e9]) rfl BR0 rfl (by kernel_rfl) (one3 rfl rfl rfl) fun w9 hg9 B9 => ?_
    have k9 := off q2 BR0 no_ints3 hg9
    have d9 := off d2 BR0 no_ints3 hg9
    have f9 := f2.mono (show w.heap.size ≤ _ from s_2)
    have bb9 := bb.trans ((Below.refl _ _).grown hg9 bb.size (fun g hg => by injection hg with hg; omega))
    obtain ⟨C0, C1, C2, _, _, _⟩ := three B9
    refine any_done (by kernel_rfl) ?_
    go_wp2
    exact bodyPost_ret (v := .agg #[.bool (ngB (1 - q).num), .slice A9 (digs 4294967296 (1 - q).num.natAbs).length c9, .slice D9 (digs 4294967296 (1 - q).den).length e9]) (by simp [results, Tryz.results19, go_sem, C0, C1, C2]) rfl ⟨_, rfl, ⟨_, _, rfl, k9, d9⟩, f9, bb9⟩
theorem fnot_any (a0 : Value) (q : Rat) (w : World) (h0 : IsQ w a0 q) (hl : lenQ q 1000) : Calls Tryz.prog 19 #[a0] w (RetQn (1 - q) w) :=
  (fnot_new a0 q w h0 hl).mono fun _ _ h => h.n
/-- None below 0, and the sum 1: all from 0 to 1. -/
theorem whole_iff {l : List Rat} (h : ∀ q ∈ l, ¬ q < 0) : wholeQ l ↔ sumq l = 1 := by
  refine ⟨fun h => h.2, fun h1 => ⟨fun q hq => ⟨h q hq, ?_⟩, h1⟩⟩
  have h2 := le_sumq (fun q hq => Rat.not_lt.1 (h q hq)) q hq
  rw [h1] at h2
  exact Rat.not_lt.2 h2
set_option maxHeartbeats 3200000 in
set_option maxRecDepth 100000 in
theorem fwhole_any (a0 : Value) (qs : List Rat) (m : Nat) (b : Bool) (w : World) (h0 : SlF .u64 4294967296 w a0 qs) (hl : (∀ q ∈ qs, lenQ q m) ∧ (m + 1) * qs.length + 1 ≤ 1000) (hb : b = decide (wholeQ qs)) :
    Calls Tryz.prog 17 #[a0] w (RetV (.bool b) w) := by
  have bb : Below w.heap.size w w := Below.refl _ _
  have sl0 := h0
  obtain ⟨A0, c0, rfl, hc0, hm0⟩ := h0.shape
  unfold maxLen at hm0
  have HLE := Lib.hid hl
  have HB := Lib.hid hb
  clear hb
  go_enter Tryz.func17, Tryz.ntmps17
  go_upto_region 1 with (fail)
  have hsz0 := bb.size
  go_wp2
  go_loopw [7] (fun v7 wr => ∃ k : Nat, k ≤ qs.length ∧ Hid (∀ q ∈ qs.take k, ¬ q < 0) ∧ Below w.heap.size w wr ∧ v7 = .int .i64 (k : Int)) (fun v7 _ => qs.length - (intOf v7).toNat)
  case atStart => exact ⟨0, by omega, by show ∀ q ∈ _, _; intro q hq; simp at hq, bb, rfl⟩
  case round =>
    obtain ⟨k, hk, HA, hbw, rfl⟩ := hrel
    clear bb
    have bb := hbw
    clear hbw
    have hszr := bb.size
    by_cases hlt : k < qs.length
    · obtain ⟨q, hq0_⟩ : ∃ q, qs[k]? = some q := ⟨_, List.getElem?_eq_getElem hlt⟩
      obtain ⟨g0_, o0_, ue0, te0, hA0_, _, e00, e01, e02, es0, ed0⟩ := (sl0.below bb).at_ hq0_
      subst hA0_
      have HQ0 := Lib.hid hq0_
      clear hq0_
      obtain ⟨Ae0, ce0, rfl, _⟩ := id es0
      obtain ⟨De0, ee0, rfl, _⟩ := id ed0
      have ke0 : IsQ wr (.agg #[.bool (ngB q.num), .slice Ae0 (digs 4294967296 q.num.natAbs).length ce0, .slice De0 (digs 4294967296 q.den).length ee0]) q := ⟨_, _, rfl, es0, ed0⟩
      have sB := bb.size
      go_upto_region 3 with (fail)
      refine flowp 3 [Pd.eq (.pointer (some ⟨g0_, o0_ + k * 3, none⟩)), Pd.eq (.agg #[.bool (ngB q.num), .slice Ae0 (digs 4294967296 q.num.natAbs).length ce0, .slice De0 (digs 4294967296 q.den).length ee0]), pn 28 #[.bool false, .slice none 0 0, .slice none 0 0] wr.heap.size] (by kernel_rfl) ?ob11 ?done11
      case ob11 =>
        refine And.intro (ob_indexAddr rfl (wt_none rfl) (ev_far rfl rfl) (ev_far rfl rfl) (fun _ _ _ hx hy => ⟨_, by rw [hx, hy]; exact index3 Tryz.underlying22 (by kernel_rfl) hlt _, rfl⟩)) ?_
        refine And.intro (ob_load rfl (wt_none rfl) (ev_dep (j := 0) (by kernel_rfl) rfl rfl) (fun w2 hb => load3 Tryz.underlying28 rfl (by kernel_rfl) ((hb.cell (World.block_lt_of_cell? wr _ e00)).trans e00) ((hb.cell (World.block_lt_of_cell? wr _ e01)).trans e01) ((hb.cell (World.block_lt_of_cell? wr _ e02)).trans e02)) (fun _ _ => rfl)) ?_
        refine And.intro (ob_alloc (z := .agg #[.bool false, .slice none 0 0, .slice none 0 0]) rfl rfl (fun _ => by kernel_rfl) (fun _ _ hB h => ⟨_, rfl, hB, h⟩)) ?_
        trivial
      case done11 =>
        refine fun w2 hb2 v0 h0 v1 h1 v2 h2 d2 b hbf => ?_
        obtain rfl := h0; obtain rfl := h1
        obtain ⟨g11_2, rfl, hg2, B2⟩ := h2
        simp only [Act.put, List.setIfInBounds_toArray, List.set_cons_zero, List.set_cons_succ] at hbf
        subst hbf
        replace es0 := es0.below hb2
        replace ed0 := ed0.below hb2
        replace bb := bb.trans (hb2.mono bb.size)
        have hsz2 := bb.size
        have BA4 := B2
        have q1 := es0
        have d1 := ed0
        refine ops_store (i := 3) rfl rfl rfl rfl rfl rfl (cells := [.bool (ngB (q).num), .slice Ae0 (digs 4294967296 (q).num.natAbs).length ce0, .slice De0 (digs 4294967296 (q).den).length ee0]) rfl BA4 rfl (by kernel_rfl) (one3 rfl rfl rfl) fun w3 hg3 BN3 => ?_
        replace q1 := off q1 BA4 no_ints3 hg3
        replace d1 := off d1 BA4 no_ints3 hg3
        replace bb := bb.trans ((Below.refl _ _).grown hg3 bb.size (fun g hg => by injection hg with hg; omega))
        have hsz3 := bb.size
        have Be0 : Blk w3 (g11_2) _ _ := BN3
        have ke0s := q1
        have ke0d := d1
        have ke0z : IsZ w3 (.agg #[.bool (ngB (q).num), .slice Ae0 (digs 4294967296 (q).num.natAbs).length ce0]) ((q).num) := ⟨_, rfl, ke0s⟩
        have ke0 : IsQ w3 (.agg #[.bool (ngB (q).num), .slice Ae0 (digs 4294967296 (q).num.natAbs).length ce0, .slice De0 (digs 4294967296 (q).den).length ee0]) (q) := ⟨_, _, rfl, ke0s, ke0d⟩
        refine ops_done ?_
        have hmem := List.mem_of_getElem? HQ0.out
        obtain ⟨t, ht⟩ : ∃ t, t = ordz q.num 0 := ⟨_, rfl⟩
        have HT := Lib.hid ht
        by_cases h0 : q < 0
        · have HTB : Hid (decide (t < 0) = true) := decide_eq_true (by rw [ht]; exact ordz_num.2 h0)
          have HW : Hid (b = false) := by show _ = _; rw [HB.out]; exact decide_eq_false (whole_no hmem (.inl h0))
          clear ht h0 hmem
          have sB := bb.size
          go_upto_region 4 with (fail)
          refine flowp 3 [Pd.eq (.agg #[.bool (ngB (q).num), .slice Ae0 (digs 4294967296 (q).num.natAbs).length ce0, .slice De0 (digs 4294967296 (q).den).length ee0]), Pd.eq (.int .i64 t), Pd.eq (.bool true)] (by kernel_rfl) ?ob12 ?done12
          case ob12 =>
            refine And.intro (ob_load rfl (wt_none rfl) (ev_far rfl rfl) (fun w2 hb => run_loadAll Tryz.underlying28 rfl (by kernel_rfl) (Be0.below hb)) (fun _ _ => rfl)) ?_
            refine And.intro (ob_call1 rfl Tryz.func50 (by kernel_rfl) (wt_none rfl) (ev_dep (j := 0) (by kernel_rfl) rfl rfl) (fun w2 u0 hb h0 => by obtain rfl := h0; exact (fsign0_any _ q t _ (ke0.below hb) HT.out).mono fun e w3 h => RetV.pd h)) ?_
            refine And.intro (ob_bin rfl (wt_none rfl) (ev_dep (j := 1) (by kernel_rfl) rfl rfl) (ev_const _) (fun _ _ _ hx hy => ⟨.bool true, by rw [hx, hy, bin_lss_int, HTB.out], rfl⟩)) ?_
            trivial
          case done12 =>
            refine fun w5 hb5 v0 h0 v1 h1 v2 h2 b hbf => ?_
            obtain rfl := h0; obtain rfl := h1; obtain rfl := h2
            simp only [Act.put, List.setIfInBounds_toArray, List.set_cons_zero, List.set_cons_succ] at hbf
            subst hbf
            replace Be0 := Be0.below hb5
            replace ke0s := ke0s.below hb5
            replace ke0d := ke0d.below hb5
            replace ke0z := ke0z.below hb5
            replace ke0 := ke0.below hb5
            replace bb := bb.trans (hb5.mono bb.size)
            have hsz5 := bb.size
            refine ops_done ?_
            go_wp2
            go_ret
            exact ⟨by rw [HW.out]; rfl, bb⟩
        · have HTB : Hid (decide (t < 0) = false) := decide_eq_false (by rw [ht]; exact fun h => h0 (ordz_num.1 h))
          have HA2 : Hid (∀ q ∈ qs.take (k + 1), ¬ q < 0) := by
            show ∀ q ∈ _, _
            rw [take_snoc HQ0.out]
            intro r hr
            rcases List.mem_append.1 hr with hr | hr
            · exact HA.out r hr
            · obtain rfl := List.mem_singleton.1 hr
              exact h0
          clear ht h0 hmem
          have sB := bb.size
          go_upto_region 4 with (fail)
          refine flowp 3 [Pd.eq (.agg #[.bool (ngB (q).num), .slice Ae0 (digs 4294967296 (q).num.natAbs).length ce0, .slice De0 (digs 4294967296 (q).den).length ee0]), Pd.eq (.int .i64 t), Pd.eq (.bool false)] (by kernel_rfl) ?ob13 ?done13
          case ob13 =>
            refine And.intro (ob_load rfl (wt_none rfl) (ev_far rfl rfl) (fun w2 hb => run_loadAll Tryz.underlying28 rfl (by kernel_rfl) (Be0.below hb)) (fun _ _ => rfl)) ?_
            refine And.intro (ob_call1 rfl Tryz.func50 (by kernel_rfl) (wt_none rfl) (ev_dep (j := 0) (by kernel_rfl) rfl rfl) (fun w2 u0 hb h0 => by obtain rfl := h0; exact (fsign0_any _ q t _ (ke0.below hb) HT.out).mono fun e w3 h => RetV.pd h)) ?_
            refine And.intro (ob_bin rfl (wt_none rfl) (ev_dep (j := 1) (by kernel_rfl) rfl rfl) (ev_const _) (fun _ _ _ hx hy => ⟨.bool false, by rw [hx, hy, bin_lss_int, HTB.out], rfl⟩)) ?_
            trivial
          case done13 =>
            refine fun w5 hb5 v0 h0 v1 h1 v2 h2 b hbf => ?_
            obtain rfl := h0; obtain rfl := h1; obtain rfl := h2
            simp only [Act.put, List.setIfInBounds_toArray, List.set_cons_zero, List.set_cons_succ] at hbf
            subst hbf
            replace Be0 := Be0.below hb5
            replace ke0s := ke0s.below hb5
            replace ke0d := ke0d.below hb5
            replace ke0z := ke0z.below hb5
            replace ke0 := ke0.below hb5
            replace bb := bb.trans (hb5.mono bb.size)
            have hsz5 := bb.size
            refine ops_done ?_
            go_wp2
            go_roundw
            case rel => exact ⟨k + 1, by omega, HA2, bb, by go_num⟩
            case measure => simp [intOf]; omega
    · have HAL : Hid (∀ q ∈ qs, ¬ q < 0) := by have := HA.out; rwa [List.take_of_length_le (by omega)] at this
      have HO : Hid (b = decide (sumq qs = 1)) := by
        show _ = _
        rw [HB.out, Bool.eq_iff_iff, decide_eq_true_iff, decide_eq_true_iff]
        exact whole_iff HAL.out
      have k0 := sl0.below bb
      have sB := bb.size
      go_upto_region 7 with (fail)
      refine flowp 4 [Pd.eq (.slice A0 qs.length c0), pqn (sumq qs), Pd.eq (.bool b), Pd.eq (.bool b)] (by kernel_rfl) ?ob14 ?done14
      case ob14 =>
        refine And.intro (ob_move rfl (wt_none rfl) (ev_far rfl rfl) (fun _ _ h => h)) ?_
        refine And.intro (ob_call1 rfl Tryz.func12 (by kernel_rfl) (wt_none rfl) (ev_dep (j := 0) (by kernel_rfl) rfl rfl) (fun w2 u0 hb h0 => by obtain rfl := h0; exact (fsum_any _ qs m _ (k0.below hb) HLE.out).mono fun e w3 h => RetQn.pd h)) ?_
        refine And.intro (ob_call1 rfl Tryz.func51 (by kernel_rfl) (wt_none rfl) (ev_dep (j := 1) (by kernel_rfl) rfl rfl) (fun w2 u0 hb h0 => by exact (one8_any _ (sumq qs) b _ h0 HO.out).mono fun e w3 h => RetV.pd h)) ?_
        refine And.intro (ob_assign rfl (wt_none rfl) (ev_dep (j := 2) (by kernel_rfl) rfl rfl) (fun _ _ h => h)) ?_
        trivial
      case done14 =>
        refine fun w2 hb2 v0 h0 v1 h1 v2 h2 v3 h3 b hbf => ?_
        obtain rfl := h0; obtain rfl := h2; obtain rfl := h3
        have q1 := h1
        simp only [Act.put, List.setIfInBounds_toArray, List.set_cons_zero, List.set_cons_succ] at hbf
        subst hbf
        replace bb := bb.trans (hb2.mono bb.size)
        have hsz2 := bb.size
        refine ops_done ?_
        go_wp2
        go_ret
        exact ⟨rfl, bb⟩
section
variable {P : Program}
theorem bin_quo_two {t : TypeId} (x y : Operand) (a : Nat) (ha : a ≤ 9223372036854775807) (w : World) : (do eqGuard .quo t x y (.int .i64 (a : Int)) (.int .i64 2); binOp .quo t (.int .i64 (a : Int)) (.int .i64 2)).run P w = .ok (.int .i64 ((a / 2 : Nat) : Int)) w := by
  have h0 : (eqGuard .quo t x y (.int .i64 (a : Int)) (.int .i64 2)).run P w = .ok () w := by simp [eqGuard]
  have e1 : ((a : Int)).tdiv 2 = ((a / 2 : Nat) : Int) := by rw [Int.tdiv_eq_ediv_of_nonneg (by omega)]; omega
  have e : IntKind.i64.wrap ((a / 2 : Nat) : Int) = ((a / 2 : Nat) : Int) := by rw [IntKind.wrap_i64]; omega
  rw [Sem.run_bind, h0, Result.andThen_ok]
  simp only [binOp, Op.intDiv]
  rw [if_neg (by decide), e1, e]
  simp [go_sem]
theorem bin_rem_two {t : TypeId} (x y : Operand) (a : Nat) (ha : a ≤ 9223372036854775807) (w : World) : (do eqGuard .rem t x y (.int .i64 (a : Int)) (.int .i64 2); binOp .rem t (.int .i64 (a : Int)) (.int .i64 2)).run P w = .ok (.int .i64 ((a % 2 : Nat) : Int)) w := by
  have h0 : (eqGuard .rem t x y (.int .i64 (a : Int)) (.int .i64 2)).run P w = .ok () w := by simp [eqGuard]
  have e1 : ((a : Int)).tmod 2 = ((a % 2 : Nat) : Int) := by rw [Int.tmod_eq_emod_of_nonneg (by omega)]; omega
  have e : IntKind.i64.wrap ((a % 2 : Nat) : Int) = ((a % 2 : Nat) : Int) := by rw [IntKind.wrap_i64]; omega
  rw [Sem.run_bind, h0, Result.andThen_ok]
  simp only [binOp, Op.intDiv]
  rw [if_neg (by decide), e1]
  simp [go_sem]
end
theorem powq_add (x : Rat) (a : Nat) : ∀ b : Nat, x ^ a * x ^ b = x ^ (a + b)
  | 0 => by rw [Rat.pow_zero, Rat.mul_one, Nat.add_zero]
  | b + 1 => by rw [Rat.pow_succ, ← Rat.mul_assoc, powq_add x a b, ← Nat.add_assoc, Rat.pow_succ]
theorem pow_halves (x : Rat) (d : Nat) : x ^ (d / 2) * x ^ (d / 2) = x ^ (d / 2 + d / 2) := powq_add x _ _
/-- Powers below K, by recursion. -/
def ByR (K : Nat) : Prop := ∀ (a0 : Value) (x : Rat) (n : Int) (d : Nat) (w : World), IsQ w a0 x → n = (d : Int) → d < K → d ≤ 2000 → lenQ x 1 → Calls Tryz.prog 95 #[a0, .int .i64 n] w (RetQn (x ^ d) w)
set_option maxHeartbeats 1600000 in
set_option maxRecDepth 100000 in
theorem raised_zero (a0 : Value) (x : Rat) (n : Int) (d : Nat) (w : World) (h0 : IsQ w a0 x) (hn : n = (d : Int)) (hd0 : d = 0) :
    Calls Tryz.prog 95 #[a0, .int .i64 n] w (RetQn (x ^ d) w) := by
  obtain ⟨u0, t0, rfl, s0, r0⟩ := h0
  obtain ⟨A0, c0, rfl, _⟩ := id s0
  obtain ⟨D0, e0, rfl, _⟩ := id r0
  obtain rfl := hd0
  have HZ : Hid (((0 : Nat) : Int) == 0) := rfl
  subst hn
  have HP : Hid ((1 : Rat) = x ^ 0) := by show _ = _; rw [Rat.pow_zero]
  go_enter Tryz.func95, Tryz.ntmps95
  go_upto_region 1 with (fail)
  obtain ⟨wx, hwx, bb, B0, BR0, hsz⟩ := vars2 w 28 28 #[.bool (ngB (x).num), .slice A0 (digs 4294967296 (x).num.natAbs).length c0, .slice D0 (digs 4294967296 (x).den).length e0] #[.bool false, .slice none 0 0, .slice none 0 0]
  rw [hwx]
  clear hwx
  have k0s := s0.below bb
  have k0d := r0.below bb
  have k0z : IsZ wx (.agg #[.bool (ngB (x).num), .slice A0 (digs 4294967296 (x).num.natAbs).length c0]) (x).num := ⟨_, rfl, k0s⟩
  have k0 : IsQ wx (.agg #[.bool (ngB (x).num), .slice A0 (digs 4294967296 (x).num.natAbs).length c0, .slice D0 (digs 4294967296 (x).den).length e0]) (x) := ⟨_, _, rfl, k0s, k0d⟩
  have hsz0 := bb.size
  have sB := bb.size
  refine flowp 2 [Pd.eq (.int .i64 ((0 : Nat) : Int)), Pd.eq (.bool true)] (by kernel_rfl) ?ob1 ?done1
  case ob1 =>
    refine And.intro (ob_move rfl (wt_none rfl) (ev_far rfl rfl) (fun _ _ h => h)) ?_
    refine And.intro (ob_bin rfl (wt_none rfl) (ev_dep (j := 0) (by kernel_rfl) rfl rfl) (ev_const _) (fun _ _ _ hx hy => ⟨.bool true, by rw [hx, hy, bin_eql_int, HZ.out], rfl⟩)) ?_
    trivial
  case done1 =>
    refine fun w1 hb1 v0 h0 v1 h1 b hbf => ?_
    obtain rfl := h0; obtain rfl := h1
    simp only [Act.put, List.setIfInBounds_toArray, List.set_cons_zero, List.set_cons_succ] at hbf
    subst hbf
    replace B0 := B0.below hb1
    replace k0s := k0s.below hb1
    replace k0d := k0d.below hb1
    replace k0z := k0z.below hb1
    replace k0 := k0.below hb1
    replace BR0 := BR0.below hb1
    replace bb := bb.trans (hb1.mono bb.size)
    have hsz1 := bb.size
    refine ops_done ?_
    have sB := bb.size
    go_upto_region 2 with (fail)
    refine flowp 1 [pq ((1 : Rat)) w1.heap.size] (by kernel_rfl) ?ob2 ?done2
    case ob2 =>
      refine And.intro (ob_call1 rfl Tryz.func45 (by kernel_rfl) (wt_none rfl) (ev_const _) (fun w2 u0 hb h0 => by obtain rfl := h0; exact (RatP_of1 _).mono fun e w3 h => RetQ.pd h hb.size)) ?_
      trivial
    case done2 =>
      refine fun w2 hb2 v0 h0 b hbf => ?_
      obtain ⟨q0, f0⟩ := h0
      simp only [Act.put, List.setIfInBounds_toArray, List.set_cons_zero, List.set_cons_succ] at hbf
      subst hbf
      replace B0 := B0.below hb2
      replace k0s := k0s.below hb2
      replace k0d := k0d.below hb2
      replace k0z := k0z.below hb2
      replace k0 := k0.below hb2
      replace BR0 := BR0.below hb2
      replace bb := bb.trans (hb2.mono bb.size)
      have hsz2 := bb.size
      have s_0 := sB
      obtain ⟨u0, t0, rfl, q0, d0⟩ := q0
      obtain ⟨A9, c9, rfl, _⟩ := id q0
      obtain ⟨D9, e9, rfl, _⟩ := id d0
      refine ops_store (i := 1) rfl rfl rfl rfl rfl rfl (cells := [.bool (ngB ((1 : Rat)).num), .slice A9 (digs 4294967296 ((1 : Rat)).num.natAbs).length c9, .slice D9 (digs 4294967296 ((1 : Rat)).den).length e9]) rfl BR0 rfl (by kernel_rfl) (one3 rfl rfl rfl) fun w9 hg9 B9 => ?_
      have k9 := off q0 BR0 no_ints3 hg9
      have d9 := off d0 BR0 no_ints3 hg9
      have bb9 := bb.trans ((Below.refl _ _).grown hg9 bb.size (fun g hg => by injection hg with hg; omega))
      obtain ⟨C0, C1, C2, _, _, _⟩ := three B9
      refine ops_done ?_
      go_wp2
      rw [← HP.out]
      exact bodyPost_ret (v := .agg #[.bool (ngB ((1 : Rat)).num), .slice A9 (digs 4294967296 ((1 : Rat)).num.natAbs).length c9, .slice D9 (digs 4294967296 ((1 : Rat)).den).length e9]) (by simp [results, Tryz.results95, go_sem, C0, C1, C2]) rfl ⟨_, rfl, ⟨_, _, rfl, k9, d9⟩, bb9⟩
set_option maxHeartbeats 3200000 in
set_option maxRecDepth 100000 in
theorem raised_step (K : Nat) (IH : ByR K) (a0 : Value) (x : Rat) (n : Int) (d : Nat) (w : World) (h0 : IsQ w a0 x) (hn : n = (d : Int)) (hd0 : d ≠ 0) (hd : d < K + 1) (hd2 : d ≤ 2000) (hl : lenQ x 1) :
    Calls Tryz.prog 95 #[a0, .int .i64 n] w (RetQn (x ^ d) w) := by
  obtain ⟨u0, t0, rfl, s0, r0⟩ := h0
  obtain ⟨A0, c0, rfl, _⟩ := id s0
  obtain ⟨D0, e0, rfl, _⟩ := id r0
  have HZ : Hid (((d : Int) == 0) = false) := by show _ = _; rw [beq_eq_false_iff_ne]; omega
  obtain ⟨H, hH⟩ : ∃ H, H = x ^ (d / 2) := ⟨_, rfl⟩
  have lH : lenQ H 2001 := by rw [hH]; exact (lenQ_pow hl (d / 2)).mono (by omega)
  have lHH : lenQ (H * H) 4002 := (lenQ_mul lH lH).mono (by omega)
  have HH : Hid (x ^ (d / 2) = H) := hH.symm
  have HHH : Hid (H * H = x ^ (d / 2 + d / 2)) := by show _ = _; rw [hH]; exact pow_halves x d
  have IHd := Lib.hid IH
  clear IH hH
  have hd0' : 0 < d := by omega
  subst hn
  go_enter Tryz.func95, Tryz.ntmps95
  go_upto_region 1 with (fail)
  obtain ⟨wx, hwx, bb, B0, BR0, hsz⟩ := vars2 w 28 28 #[.bool (ngB (x).num), .slice A0 (digs 4294967296 (x).num.natAbs).length c0, .slice D0 (digs 4294967296 (x).den).length e0] #[.bool false, .slice none 0 0, .slice none 0 0]
  rw [hwx]
  clear hwx
  have k0s := s0.below bb
  have k0d := r0.below bb
  have k0z : IsZ wx (.agg #[.bool (ngB (x).num), .slice A0 (digs 4294967296 (x).num.natAbs).length c0]) (x).num := ⟨_, rfl, k0s⟩
  have k0 : IsQ wx (.agg #[.bool (ngB (x).num), .slice A0 (digs 4294967296 (x).num.natAbs).length c0, .slice D0 (digs 4294967296 (x).den).length e0]) (x) := ⟨_, _, rfl, k0s, k0d⟩
  have hsz0 := bb.size
  have sB := bb.size
  refine flowp 2 [Pd.eq (.int .i64 (d : Int)), Pd.eq (.bool false)] (by kernel_rfl) ?ob3 ?done3
  case ob3 =>
    refine And.intro (ob_move rfl (wt_none rfl) (ev_far rfl rfl) (fun _ _ h => h)) ?_
    refine And.intro (ob_bin rfl (wt_none rfl) (ev_dep (j := 0) (by kernel_rfl) rfl rfl) (ev_const _) (fun _ _ _ hx hy => ⟨.bool false, by rw [hx, hy, bin_eql_int, HZ.out], rfl⟩)) ?_
    trivial
  case done3 =>
    refine fun w1 hb1 v0 h0 v1 h1 b hbf => ?_
    obtain rfl := h0; obtain rfl := h1
    simp only [Act.put, List.setIfInBounds_toArray, List.set_cons_zero, List.set_cons_succ] at hbf
    subst hbf
    replace B0 := B0.below hb1
    replace k0s := k0s.below hb1
    replace k0d := k0d.below hb1
    replace k0z := k0z.below hb1
    replace k0 := k0.below hb1
    replace BR0 := BR0.below hb1
    replace bb := bb.trans (hb1.mono bb.size)
    have hsz1 := bb.size
    refine ops_done ?_
    have sB := bb.size
    go_upto_region 3 with (fail)
    have lt1_2 := Blk.lt B0
    have lt1_4 := Blk.lt BR0
    refine flowp 5 [Pd.eq (.agg #[.bool (ngB (x).num), .slice A0 (digs 4294967296 (x).num.natAbs).length c0, .slice D0 (digs 4294967296 (x).den).length e0]), Pd.eq (.int .i64 (d : Int)), Pd.eq (.int .i64 ((d / 2 : Nat) : Int)), pqn (H), pn 28 #[.bool false, .slice none 0 0, .slice none 0 0] w1.heap.size] (by kernel_rfl) ?ob4 ?done4
    case ob4 =>
      refine And.intro (ob_load rfl (wt_none rfl) (ev_far rfl rfl) (fun w2 hb => run_loadAll Tryz.underlying28 rfl (by kernel_rfl) (B0.below hb)) (fun _ _ => rfl)) ?_
      refine And.intro (ob_move rfl (wt_none rfl) (ev_far rfl rfl) (fun _ _ h => h)) ?_
      refine And.intro (ob_bin rfl (wt_none rfl) (ev_dep (j := 1) (by kernel_rfl) rfl rfl) (ev_const _) (fun _ _ _ hx hy => ⟨_, by rw [hx, hy]; exact bin_quo_two _ _ d (by omega) _, rfl⟩)) ?_
      refine And.intro (ob_call2 rfl Tryz.func95 (by kernel_rfl) (wt_none rfl) (ev_dep (j := 0) (by kernel_rfl) rfl rfl) (ev_dep (j := 2) (by kernel_rfl) rfl rfl) (fun w2 u0 u1 hb h0 h1 => by obtain rfl := h0; obtain rfl := h1; exact (HH.out ▸ IHd.out _ x _ (d / 2) _ (k0.below hb) rfl (by omega) (by omega) hl).mono fun e w3 h => RetQn.pd h)) ?_
      refine And.intro (ob_alloc (z := .agg #[.bool false, .slice none 0 0, .slice none 0 0]) rfl rfl (fun _ => by kernel_rfl) (fun _ _ hB h => ⟨_, rfl, hB, h⟩)) ?_
      trivial
    case done4 =>
      refine fun w2 hb2 v0 h0 v1 h1 v2 h2 v3 h3 v4 h4 d4 b hbf => ?_
      obtain rfl := h0; obtain rfl := h1; obtain rfl := h2
      have q3 := h3
      obtain ⟨g4_4, rfl, hg4, B4⟩ := h4
      simp only [Act.put, List.setIfInBounds_toArray, List.set_cons_zero, List.set_cons_succ] at hbf
      subst hbf
      replace B0 := B0.below hb2
      replace k0s := k0s.below hb2
      replace k0d := k0d.below hb2
      replace k0z := k0z.below hb2
      replace k0 := k0.below hb2
      replace BR0 := BR0.below hb2
      replace bb := bb.trans (hb2.mono bb.size)
      have hsz2 := bb.size
      have BA5 := B4
      obtain ⟨u3, t3, rfl, q3, d3⟩ := q3
      obtain ⟨A5, c5, rfl, _⟩ := id q3
      obtain ⟨D5, e5, rfl, _⟩ := id d3
      refine ops_store (i := 5) rfl rfl rfl rfl rfl rfl (cells := [.bool (ngB (H).num), .slice A5 (digs 4294967296 (H).num.natAbs).length c5, .slice D5 (digs 4294967296 (H).den).length e5]) rfl BA5 rfl (by kernel_rfl) (one3 rfl rfl rfl) fun w3 hg3 BN3 => ?_
      replace q3 := off q3 BA5 no_ints3 hg3
      replace d3 := off d3 BA5 no_ints3 hg3
      replace k0s := off k0s BA5 no_ints3 hg3
      replace k0d := off k0d BA5 no_ints3 hg3
      replace k0z : IsZ w3 (.agg #[.bool (ngB (x).num), .slice A0 (digs 4294967296 (x).num.natAbs).length c0]) ((x).num) := ⟨_, rfl, k0s⟩
      replace k0 : IsQ w3 (.agg #[.bool (ngB (x).num), .slice A0 (digs 4294967296 (x).num.natAbs).length c0, .slice D0 (digs 4294967296 (x).den).length e0]) (x) := ⟨_, _, rfl, k0s, k0d⟩
      replace B0 := B0.grown hg3 (by omega)
      replace BR0 := BR0.grown hg3 (by omega)
      replace bb := bb.trans ((Below.refl _ _).grown hg3 bb.size (fun g hg => by injection hg with hg; omega))
      have hsz3 := bb.size
      have B5 : Blk w3 (g4_4) _ _ := BN3
      have k5s := q3
      have k5d := d3
      have k5z : IsZ w3 (.agg #[.bool (ngB (H).num), .slice A5 (digs 4294967296 (H).num.natAbs).length c5]) ((H).num) := ⟨_, rfl, k5s⟩
      have k5 : IsQ w3 (.agg #[.bool (ngB (H).num), .slice A5 (digs 4294967296 (H).num.natAbs).length c5, .slice D5 (digs 4294967296 (H).den).length e5]) (H) := ⟨_, _, rfl, k5s, k5d⟩
      refine ops_done ?_
      have sB := bb.size
      go_upto_region 4 with (fail)
      have lt3_2 := Blk.lt B0
      have lt3_4 := Blk.lt BR0
      have lt3_5 := Blk.lt B5
      refine flowp 4 [Pd.eq (.agg #[.bool (ngB (H).num), .slice A5 (digs 4294967296 (H).num.natAbs).length c5, .slice D5 (digs 4294967296 (H).den).length e5]), Pd.eq (.agg #[.bool (ngB (H).num), .slice A5 (digs 4294967296 (H).num.natAbs).length c5, .slice D5 (digs 4294967296 (H).den).length e5]), pq ((H * H)) w3.heap.size, pn 28 #[.bool false, .slice none 0 0, .slice none 0 0] w3.heap.size] (by kernel_rfl) ?ob5 ?done5
      case ob5 =>
        refine And.intro (ob_load rfl (wt_none rfl) (ev_far rfl rfl) (fun w2 hb => run_loadAll Tryz.underlying28 rfl (by kernel_rfl) (B5.below hb)) (fun _ _ => rfl)) ?_
        refine And.intro (ob_load rfl (wt_none rfl) (ev_far rfl rfl) (fun w2 hb => run_loadAll Tryz.underlying28 rfl (by kernel_rfl) (B5.below hb)) (fun _ _ => rfl)) ?_
        refine And.intro (ob_call2 rfl Tryz.func49 (by kernel_rfl) (wt_none rfl) (ev_dep (j := 0) (by kernel_rfl) rfl rfl) (ev_dep (j := 1) (by kernel_rfl) rfl rfl) (fun w2 u0 u1 hb h0 h1 => by obtain rfl := h0; obtain rfl := h1; exact (mul8_any _ (H) _ (H) _ (k5.below hb) (k5.below hb) (lH.mono (by decide)) (lH.mono (by decide))).mono fun e w3 h => RetQ.pd h hb.size)) ?_
        refine And.intro (ob_alloc (z := .agg #[.bool false, .slice none 0 0, .slice none 0 0]) rfl rfl (fun _ => by kernel_rfl) (fun _ _ hB h => ⟨_, rfl, hB, h⟩)) ?_
        trivial
      case done5 =>
        refine fun w4 hb4 v0 h0 v1 h1 v2 h2 v3 h3 d3 b hbf => ?_
        obtain rfl := h0; obtain rfl := h1
        obtain ⟨q2, f2⟩ := h2
        obtain ⟨g5_3, rfl, hg3, B3⟩ := h3
        simp only [Act.put, List.setIfInBounds_toArray, List.set_cons_zero, List.set_cons_succ] at hbf
        subst hbf
        replace B0 := B0.below hb4
        replace k0s := k0s.below hb4
        replace k0d := k0d.below hb4
        replace k0z := k0z.below hb4
        replace k0 := k0.below hb4
        replace BR0 := BR0.below hb4
        replace B5 := B5.below hb4
        replace k5s := k5s.below hb4
        replace k5d := k5d.below hb4
        replace k5z := k5z.below hb4
        replace k5 := k5.below hb4
        replace bb := bb.trans (hb4.mono bb.size)
        have hsz4 := bb.size
        have s_2 := sB
        have BA6 := B3
        obtain ⟨u2, t2, rfl, q2, d2⟩ := q2
        obtain ⟨A6, c6, rfl, _⟩ := id q2
        obtain ⟨D6, e6, rfl, _⟩ := id d2
        refine ops_store (i := 4) rfl rfl rfl rfl rfl rfl (cells := [.bool (ngB ((H * H)).num), .slice A6 (digs 4294967296 ((H * H)).num.natAbs).length c6, .slice D6 (digs 4294967296 ((H * H)).den).length e6]) rfl BA6 rfl (by kernel_rfl) (one3 rfl rfl rfl) fun w5 hg5 BN5 => ?_
        replace q2 := off q2 BA6 no_ints3 hg5
        replace d2 := off d2 BA6 no_ints3 hg5
        replace k0s := off k0s BA6 no_ints3 hg5
        replace k0d := off k0d BA6 no_ints3 hg5
        replace k0z : IsZ w5 (.agg #[.bool (ngB (x).num), .slice A0 (digs 4294967296 (x).num.natAbs).length c0]) ((x).num) := ⟨_, rfl, k0s⟩
        replace k0 : IsQ w5 (.agg #[.bool (ngB (x).num), .slice A0 (digs 4294967296 (x).num.natAbs).length c0, .slice D0 (digs 4294967296 (x).den).length e0]) (x) := ⟨_, _, rfl, k0s, k0d⟩
        replace B0 := B0.grown hg5 (by omega)
        replace BR0 := BR0.grown hg5 (by omega)
        replace k5s := off k5s BA6 no_ints3 hg5
        replace k5d := off k5d BA6 no_ints3 hg5
        replace k5z : IsZ w5 (.agg #[.bool (ngB (H).num), .slice A5 (digs 4294967296 (H).num.natAbs).length c5]) ((H).num) := ⟨_, rfl, k5s⟩
        replace k5 : IsQ w5 (.agg #[.bool (ngB (H).num), .slice A5 (digs 4294967296 (H).num.natAbs).length c5, .slice D5 (digs 4294967296 (H).den).length e5]) (H) := ⟨_, _, rfl, k5s, k5d⟩
        replace B5 := B5.grown hg5 (by omega)
        replace bb := bb.trans ((Below.refl _ _).grown hg5 bb.size (fun g hg => by injection hg with hg; omega))
        have hsz5 := bb.size
        have B6 : Blk w5 (g5_3) _ _ := BN5
        have k6s := q2
        have k6d := d2
        have k6z : IsZ w5 (.agg #[.bool (ngB ((H * H)).num), .slice A6 (digs 4294967296 ((H * H)).num.natAbs).length c6]) (((H * H)).num) := ⟨_, rfl, k6s⟩
        have k6 : IsQ w5 (.agg #[.bool (ngB ((H * H)).num), .slice A6 (digs 4294967296 ((H * H)).num.natAbs).length c6, .slice D6 (digs 4294967296 ((H * H)).den).length e6]) ((H * H)) := ⟨_, _, rfl, k6s, k6d⟩
        refine ops_done ?_
        by_cases ho : d % 2 = 1
        · have HO : Hid ((((d % 2 : Nat) : Int) == 1) = true) := by show _ = _; rw [ho]; rfl
          have HE : Hid (H * H * x = x ^ d) := by show _ = _; rw [HHH.out, ← Rat.pow_succ]; congr 1; omega
          clear ho
          have sB := bb.size
          go_upto_region 5 with (fail)
          refine flowp 3 [Pd.eq (.int .i64 (d : Int)), Pd.eq (.int .i64 ((d % 2 : Nat) : Int)), Pd.eq (.bool true)] (by kernel_rfl) ?ob6 ?done6
          case ob6 =>
            refine And.intro (ob_move rfl (wt_none rfl) (ev_far rfl rfl) (fun _ _ h => h)) ?_
            refine And.intro (ob_bin rfl (wt_none rfl) (ev_dep (j := 0) (by kernel_rfl) rfl rfl) (ev_const _) (fun _ _ _ hx hy => ⟨_, by rw [hx, hy]; exact bin_rem_two _ _ d (by omega) _, rfl⟩)) ?_
            refine And.intro (ob_bin rfl (wt_none rfl) (ev_dep (j := 1) (by kernel_rfl) rfl rfl) (ev_const _) (fun _ _ _ hx hy => ⟨.bool true, by rw [hx, hy, bin_eql_int, HO.out], rfl⟩)) ?_
            trivial
          case done6 =>
            refine fun w7 hb7 v0 h0 v1 h1 v2 h2 b hbf => ?_
            obtain rfl := h0; obtain rfl := h1; obtain rfl := h2
            simp only [Act.put, List.setIfInBounds_toArray, List.set_cons_zero, List.set_cons_succ] at hbf
            subst hbf
            replace B0 := B0.below hb7
            replace k0s := k0s.below hb7
            replace k0d := k0d.below hb7
            replace k0z := k0z.below hb7
            replace k0 := k0.below hb7
            replace BR0 := BR0.below hb7
            replace B5 := B5.below hb7
            replace k5s := k5s.below hb7
            replace k5d := k5d.below hb7
            replace k5z := k5z.below hb7
            replace k5 := k5.below hb7
            replace B6 := B6.below hb7
            replace k6s := k6s.below hb7
            replace k6d := k6d.below hb7
            replace k6z := k6z.below hb7
            replace k6 := k6.below hb7
            replace bb := bb.trans (hb7.mono bb.size)
            have hsz7 := bb.size
            refine ops_done ?_
            have sB := bb.size
            go_upto_region 6 with (fail)
            refine flowp 3 [Pd.eq (.agg #[.bool (ngB ((H * H)).num), .slice A6 (digs 4294967296 ((H * H)).num.natAbs).length c6, .slice D6 (digs 4294967296 ((H * H)).den).length e6]), Pd.eq (.agg #[.bool (ngB (x).num), .slice A0 (digs 4294967296 (x).num.natAbs).length c0, .slice D0 (digs 4294967296 (x).den).length e0]), pq ((H * H * x)) w7.heap.size] (by kernel_rfl) ?ob8 ?done8
            case ob8 =>
              refine And.intro (ob_load rfl (wt_none rfl) (ev_far rfl rfl) (fun w2 hb => run_loadAll Tryz.underlying28 rfl (by kernel_rfl) (B6.below hb)) (fun _ _ => rfl)) ?_
              refine And.intro (ob_load rfl (wt_none rfl) (ev_far rfl rfl) (fun w2 hb => run_loadAll Tryz.underlying28 rfl (by kernel_rfl) (B0.below hb)) (fun _ _ => rfl)) ?_
              refine And.intro (ob_call2 rfl Tryz.func49 (by kernel_rfl) (wt_none rfl) (ev_dep (j := 0) (by kernel_rfl) rfl rfl) (ev_dep (j := 1) (by kernel_rfl) rfl rfl) (fun w2 u0 u1 hb h0 h1 => by obtain rfl := h0; obtain rfl := h1; exact (mul8_any _ (H * H) _ (x) _ (k6.below hb) (k0.below hb) (lHH.mono (by decide)) (hl.mono (by decide))).mono fun e w3 h => RetQ.pd h hb.size)) ?_
              trivial
            case done8 =>
              refine fun w8 hb8 v0 h0 v1 h1 v2 h2 b hbf => ?_
              obtain rfl := h0; obtain rfl := h1
              obtain ⟨q2, f2⟩ := h2
              simp only [Act.put, List.setIfInBounds_toArray, List.set_cons_zero, List.set_cons_succ] at hbf
              subst hbf
              replace B0 := B0.below hb8
              replace k0s := k0s.below hb8
              replace k0d := k0d.below hb8
              replace k0z := k0z.below hb8
              replace k0 := k0.below hb8
              replace BR0 := BR0.below hb8
              replace B5 := B5.below hb8
              replace k5s := k5s.below hb8
              replace k5d := k5d.below hb8
              replace k5z := k5z.below hb8
              replace k5 := k5.below hb8
              replace B6 := B6.below hb8
              replace k6s := k6s.below hb8
              replace k6d := k6d.below hb8
              replace k6z := k6z.below hb8
              replace k6 := k6.below hb8
              replace bb := bb.trans (hb8.mono bb.size)
              have hsz8 := bb.size
              have s_2 := sB
              obtain ⟨u2, t2, rfl, q2, d2⟩ := q2
              obtain ⟨A7, c7, rfl, _⟩ := id q2
              obtain ⟨D7, e7, rfl, _⟩ := id d2
              refine ops_store (i := 3) rfl rfl rfl rfl rfl rfl (cells := [.bool (ngB ((H * H * x)).num), .slice A7 (digs 4294967296 ((H * H * x)).num.natAbs).length c7, .slice D7 (digs 4294967296 ((H * H * x)).den).length e7]) rfl B6 rfl (by kernel_rfl) (one3 rfl rfl rfl) fun w9 hg9 BN9 => ?_
              replace q2 := off q2 B6 no_ints3 hg9
              replace d2 := off d2 B6 no_ints3 hg9
              replace k0s := off k0s B6 no_ints3 hg9
              replace k0d := off k0d B6 no_ints3 hg9
              replace k0z : IsZ w9 (.agg #[.bool (ngB (x).num), .slice A0 (digs 4294967296 (x).num.natAbs).length c0]) ((x).num) := ⟨_, rfl, k0s⟩
              replace k0 : IsQ w9 (.agg #[.bool (ngB (x).num), .slice A0 (digs 4294967296 (x).num.natAbs).length c0, .slice D0 (digs 4294967296 (x).den).length e0]) (x) := ⟨_, _, rfl, k0s, k0d⟩
              replace B0 := B0.grown hg9 (by omega)
              replace BR0 := BR0.grown hg9 (by omega)
              replace k5s := off k5s B6 no_ints3 hg9
              replace k5d := off k5d B6 no_ints3 hg9
              replace k5z : IsZ w9 (.agg #[.bool (ngB (H).num), .slice A5 (digs 4294967296 (H).num.natAbs).length c5]) ((H).num) := ⟨_, rfl, k5s⟩
              replace k5 : IsQ w9 (.agg #[.bool (ngB (H).num), .slice A5 (digs 4294967296 (H).num.natAbs).length c5, .slice D5 (digs 4294967296 (H).den).length e5]) (H) := ⟨_, _, rfl, k5s, k5d⟩
              replace B5 := B5.grown hg9 (by omega)
              replace bb := bb.trans ((Below.refl _ _).grown hg9 bb.size (fun g hg => by injection hg with hg; omega))
              have hsz9 := bb.size
              have B7 : Blk w9 (g5_3) _ _ := BN9
              have k7s := q2
              have k7d := d2
              have k7z : IsZ w9 (.agg #[.bool (ngB ((H * H * x)).num), .slice A7 (digs 4294967296 ((H * H * x)).num.natAbs).length c7]) (((H * H * x)).num) := ⟨_, rfl, k7s⟩
              have k7 : IsQ w9 (.agg #[.bool (ngB ((H * H * x)).num), .slice A7 (digs 4294967296 ((H * H * x)).num.natAbs).length c7, .slice D7 (digs 4294967296 ((H * H * x)).den).length e7]) ((H * H * x)) := ⟨_, _, rfl, k7s, k7d⟩
              refine ops_done ?_
              have sB := bb.size
              go_upto_region 7 with (fail)
              refine flowp 1 [Pd.eq (.agg #[.bool (ngB ((H * H * x)).num), .slice A7 (digs 4294967296 ((H * H * x)).num.natAbs).length c7, .slice D7 (digs 4294967296 ((H * H * x)).den).length e7])] (by kernel_rfl) ?ob9 ?done9
              case ob9 =>
                refine And.intro (ob_load rfl (wt_none rfl) (ev_far rfl rfl) (fun w2 hb => run_loadAll Tryz.underlying28 rfl (by kernel_rfl) (B7.below hb)) (fun _ _ => rfl)) ?_
                trivial
              case done9 =>
                refine fun w10 hb10 v0 h0 b hbf => ?_
                obtain rfl := h0
                simp only [Act.put, List.setIfInBounds_toArray, List.set_cons_zero, List.set_cons_succ] at hbf
                subst hbf
                replace B0 := B0.below hb10
                replace k0s := k0s.below hb10
                replace k0d := k0d.below hb10
                replace k0z := k0z.below hb10
                replace k0 := k0.below hb10
                replace BR0 := BR0.below hb10
                replace B5 := B5.below hb10
                replace k5s := k5s.below hb10
                replace k5d := k5d.below hb10
                replace k5z := k5z.below hb10
                replace k5 := k5.below hb10
                replace B7 := B7.below hb10
                replace k7s := k7s.below hb10
                replace k7d := k7d.below hb10
                replace k7z := k7z.below hb10
                replace k7 := k7.below hb10
                replace bb := bb.trans (hb10.mono bb.size)
                have hsz10 := bb.size
                refine ops_store (i := 1) rfl rfl rfl rfl rfl rfl (cells := [.bool (ngB ((H * H * x)).num), .slice A7 (digs 4294967296 ((H * H * x)).num.natAbs).length c7, .slice D7 (digs 4294967296 ((H * H * x)).den).length e7]) rfl BR0 rfl (by kernel_rfl) (one3 rfl rfl rfl) fun w9 hg9 B9 => ?_
                have k9 := off k7s BR0 no_ints3 hg9
                have d9 := off k7d BR0 no_ints3 hg9
                have bb9 := bb.trans ((Below.refl _ _).grown hg9 bb.size (fun g hg => by injection hg with hg; omega))
                obtain ⟨C0, C1, C2, _, _, _⟩ := three B9
                refine ops_done ?_
                go_wp2
                rw [← HE.out]
                exact bodyPost_ret (v := .agg #[.bool (ngB ((H * H * x)).num), .slice A7 (digs 4294967296 ((H * H * x)).num.natAbs).length c7, .slice D7 (digs 4294967296 ((H * H * x)).den).length e7]) (by simp [results, Tryz.results95, go_sem, C0, C1, C2]) rfl ⟨_, rfl, ⟨_, _, rfl, k9, d9⟩, bb9⟩
        · have HO : Hid ((((d % 2 : Nat) : Int) == 1) = false) := by show _ = _; rw [beq_eq_false_iff_ne]; omega
          have HE : Hid (H * H = x ^ d) := by show _ = _; rw [HHH.out]; congr 1; omega
          clear ho
          have sB := bb.size
          go_upto_region 5 with (fail)
          refine flowp 3 [Pd.eq (.int .i64 (d : Int)), Pd.eq (.int .i64 ((d % 2 : Nat) : Int)), Pd.eq (.bool false)] (by kernel_rfl) ?ob7 ?done7
          case ob7 =>
            refine And.intro (ob_move rfl (wt_none rfl) (ev_far rfl rfl) (fun _ _ h => h)) ?_
            refine And.intro (ob_bin rfl (wt_none rfl) (ev_dep (j := 0) (by kernel_rfl) rfl rfl) (ev_const _) (fun _ _ _ hx hy => ⟨_, by rw [hx, hy]; exact bin_rem_two _ _ d (by omega) _, rfl⟩)) ?_
            refine And.intro (ob_bin rfl (wt_none rfl) (ev_dep (j := 1) (by kernel_rfl) rfl rfl) (ev_const _) (fun _ _ _ hx hy => ⟨.bool false, by rw [hx, hy, bin_eql_int, HO.out], rfl⟩)) ?_
            trivial
          case done7 =>
            refine fun w7 hb7 v0 h0 v1 h1 v2 h2 b hbf => ?_
            obtain rfl := h0; obtain rfl := h1; obtain rfl := h2
            simp only [Act.put, List.setIfInBounds_toArray, List.set_cons_zero, List.set_cons_succ] at hbf
            subst hbf
            replace B0 := B0.below hb7
            replace k0s := k0s.below hb7
            replace k0d := k0d.below hb7
            replace k0z := k0z.below hb7
            replace k0 := k0.below hb7
            replace BR0 := BR0.below hb7
            replace B5 := B5.below hb7
            replace k5s := k5s.below hb7
            replace k5d := k5d.below hb7
            replace k5z := k5z.below hb7
            replace k5 := k5.below hb7
            replace B6 := B6.below hb7
            replace k6s := k6s.below hb7
            replace k6d := k6d.below hb7
            replace k6z := k6z.below hb7
            replace k6 := k6.below hb7
            replace bb := bb.trans (hb7.mono bb.size)
            have hsz7 := bb.size
            refine ops_done ?_
            have sB := bb.size
            go_upto_region 7 with (fail)
            refine flowp 1 [Pd.eq (.agg #[.bool (ngB ((H * H)).num), .slice A6 (digs 4294967296 ((H * H)).num.natAbs).length c6, .slice D6 (digs 4294967296 ((H * H)).den).length e6])] (by kernel_rfl) ?ob10 ?done10
            case ob10 =>
              refine And.intro (ob_load rfl (wt_none rfl) (ev_far rfl rfl) (fun w2 hb => run_loadAll Tryz.underlying28 rfl (by kernel_rfl) (B6.below hb)) (fun _ _ => rfl)) ?_
              trivial
            case done10 =>
              refine fun w8 hb8 v0 h0 b hbf => ?_
              obtain rfl := h0
              simp only [Act.put, List.setIfInBounds_toArray, List.set_cons_zero, List.set_cons_succ] at hbf
              subst hbf
              replace B0 := B0.below hb8
              replace k0s := k0s.below hb8
              replace k0d := k0d.below hb8
              replace k0z := k0z.below hb8
              replace k0 := k0.below hb8
              replace BR0 := BR0.below hb8
              replace B5 := B5.below hb8
              replace k5s := k5s.below hb8
              replace k5d := k5d.below hb8
              replace k5z := k5z.below hb8
              replace k5 := k5.below hb8
              replace B6 := B6.below hb8
              replace k6s := k6s.below hb8
              replace k6d := k6d.below hb8
              replace k6z := k6z.below hb8
              replace k6 := k6.below hb8
              replace bb := bb.trans (hb8.mono bb.size)
              have hsz8 := bb.size
              refine ops_store (i := 1) rfl rfl rfl rfl rfl rfl (cells := [.bool (ngB ((H * H)).num), .slice A6 (digs 4294967296 ((H * H)).num.natAbs).length c6, .slice D6 (digs 4294967296 ((H * H)).den).length e6]) rfl BR0 rfl (by kernel_rfl) (one3 rfl rfl rfl) fun w9 hg9 B9 => ?_
              have k9 := off k6s BR0 no_ints3 hg9
              have d9 := off k6d BR0 no_ints3 hg9
              have bb9 := bb.trans ((Below.refl _ _).grown hg9 bb.size (fun g hg => by injection hg with hg; omega))
              obtain ⟨C0, C1, C2, _, _, _⟩ := three B9
              refine ops_done ?_
              go_wp2
              rw [← HE.out]
              exact bodyPost_ret (v := .agg #[.bool (ngB ((H * H)).num), .slice A6 (digs 4294967296 ((H * H)).num.natAbs).length c6, .slice D6 (digs 4294967296 ((H * H)).den).length e6]) (by simp [results, Tryz.results95, go_sem, C0, C1, C2]) rfl ⟨_, rfl, ⟨_, _, rfl, k9, d9⟩, bb9⟩
theorem byR : ∀ K, ByR K
  | 0 => fun _ _ _ _ _ _ _ h => absurd h (by omega)
  | K + 1 => fun a0 x n d w h0 hn hd hd2 hl => by
    by_cases h : d = 0
    · exact raised_zero a0 x n d w h0 hn h
    · exact raised_step K (byR K) a0 x n d w h0 hn h hd hd2 hl
theorem raised_any (a0 : Value) (x : Rat) (n : Int) (d : Nat) (w : World) (h0 : IsQ w a0 x) (hn : n = (d : Int)) (hd : d ≤ 2000) (hl : lenQ x 1) : Calls Tryz.prog 95 #[a0, .int .i64 n] w (RetQn (x ^ d) w) := byR (d + 1) a0 x n d w h0 hn (by omega) hd hl
/-- The first i ones are rising; the first i + 1, but that at j may have greater ones ahead. -/
def Up (ss : List Rat) (i : Nat) : Prop := ∀ (p q : Nat) (x y : Rat), p < q → q < i → ss[p]? = some x → ss[q]? = some y → x ≤ y
/-- A list that is written from the front, over another one. -/
theorem front_set {a b : List Rat} {k : Nat} {x : Rat} (ha : a[k]? = some x) (hl : a.length = b.length) : (a.take k ++ b.drop k).set k x = a.take (k + 1) ++ b.drop (k + 1) := by
  have hk : k < a.length := (List.getElem?_eq_some_iff.1 ha).1
  have e : (a.take k).length = k := by rw [List.length_take]; omega
  rw [List.set_append_right _ _ (by omega), e, Nat.sub_self, take_snoc ha, List.append_assoc, List.drop_eq_getElem_cons (by omega : k < b.length)]
  rfl
theorem front_at {a b : List Rat} {k : Nat} {y : Rat} (hb : b[k]? = some y) (hl : a.length = b.length) : (a.take k ++ b.drop k)[k]? = some y := by
  have hk : k < b.length := (List.getElem?_eq_some_iff.1 hb).1
  have e : (a.take k).length = k := by rw [List.length_take]; omega
  rw [List.getElem?_append_right (by omega), e, Nat.sub_self, List.getElem?_drop]
  exact hb
theorem front_len (a b : List Rat) (k : Nat) (hl : a.length = b.length) : (a.take k ++ b.drop k).length = b.length := by
  rw [List.length_append, List.length_take, List.length_drop]; omega
section
variable {P : Program} {ops : Array Oper} {L : List Oper} {Φ : List Pd} {w0 : World} {a0 : Act} {o : Oper} {G : Pd} {Q : Exit → Act → World → Prop}
end
theorem Up.mono {ss : List Rat} {i j : Nat} (h : Up ss i) (hj : j ≤ i) : Up ss j := fun p q x y h1 h2 hx hy => h p q x y h1 (by omega) hx hy
set_option maxHeartbeats 3200000 in
set_option maxRecDepth 100000 in
theorem minf_any (a0 : Value) (qs : List Rat) (w : World) (h0 : SlF .u64 4294967296 w a0 qs) (hne : qs ≠ []) (hl : ∀ q ∈ qs, lenQ q 2) :
    Calls Tryz.prog 58 #[a0, .func (.func 34) #[] #[]] w (RetQn (leastq qs) w) := by
  have sl0 := h0
  obtain ⟨A0, c0, rfl, hc0, hm0⟩ := h0.shape
  unfold maxLen at hm0
  have HL := Lib.hid hl
  have hln : 0 < qs.length := List.length_pos_iff.2 hne
  obtain ⟨q0, hq0⟩ : ∃ q0, qs[0]? = some q0 := ⟨_, List.getElem?_eq_getElem hln⟩
  have HQ0 := Lib.hid hq0
  clear hq0
  have HLB : Hid (decide (((qs.length : Nat) : Int) < 1) = false) := decide_eq_false (by omega)
  go_enter Tryz.func58, Tryz.ntmps58
  go_upto_region 1 with (fail)
  obtain ⟨wx, hwx, bb, BR0, hsz⟩ := vars1 w 28 #[.bool false, .slice none 0 0, .slice none 0 0]
  rw [hwx]
  clear hwx
  have hsz0 := bb.size
  obtain ⟨g0_, o0_, cp0_, hA0_, _, _, _⟩ := sl0.place hne
  injection hA0_ with e1_ _ e3_
  subst e1_
  subst e3_
  have sB := bb.size
  refine flowp 3 [Pd.eq (.slice (some ⟨g0_, o0_, none⟩) qs.length c0), Pd.eq (.int .i64 ((qs.length : Nat) : Int)), Pd.eq (.bool false)] (by kernel_rfl) ?ob1 ?done1
  case ob1 =>
    refine And.intro (ob_move rfl (wt_none rfl) (ev_far rfl rfl) (fun _ _ h => h)) ?_
    refine And.intro (ob_len rfl (wt_none rfl) (ev_dep (j := 0) (by kernel_rfl) rfl rfl) (fun _ _ hx => ⟨_, by rw [hx]; exact len_slice Tryz.underlying22 _ _ _ _, rfl⟩)) ?_
    refine And.intro (ob_bin rfl (wt_none rfl) (ev_dep (j := 1) (by kernel_rfl) rfl rfl) (ev_const _) (fun _ _ _ hx hy => ⟨.bool false, by rw [hx, hy, bin_lss_int, HLB.out], rfl⟩)) ?_
    trivial
  case done1 =>
    refine fun w1 hb1 v0 h0 v1 h1 v2 h2 b hbf => ?_
    obtain rfl := h0; obtain rfl := h1; obtain rfl := h2
    simp only [Act.put, List.setIfInBounds_toArray, List.set_cons_zero, List.set_cons_succ] at hbf
    subst hbf
    replace BR0 := BR0.below hb1
    replace bb := bb.trans (hb1.mono bb.size)
    have hsz1 := bb.size
    refine ops_done ?_
    obtain ⟨um, tm, hltm, zm0, zm1, zm2, zms, zmd⟩ := (sl0.below bb).at2 HQ0.out
    obtain ⟨Am, cm, rfl, _⟩ := id zms
    obtain ⟨Dm, em, rfl, _⟩ := id zmd
    have zm : IsQ w1 (.agg #[.bool (ngB (q0).num), .slice Am (digs 4294967296 (q0).num.natAbs).length cm, .slice Dm (digs 4294967296 (q0).den).length em]) (q0) := ⟨_, _, rfl, zms, zmd⟩
    have sB := bb.size
    go_upto_region 3 with (fail)
    have lt1_4 := Blk.lt BR0
    refine flowp 4 [Pd.eq (.slice (some ⟨g0_, o0_, none⟩) qs.length c0), Pd.eq (.pointer (some ⟨g0_, o0_ + 0 * 3, none⟩)), Pd.eq (.agg #[.bool (ngB (q0).num), .slice Am (digs 4294967296 (q0).num.natAbs).length cm, .slice Dm (digs 4294967296 (q0).den).length em]), pn 28 #[.bool false, .slice none 0 0, .slice none 0 0] w1.heap.size] (by kernel_rfl) ?ob2 ?done2
    case ob2 =>
      refine And.intro (ob_move rfl (wt_none rfl) (ev_far rfl rfl) (fun _ _ h => h)) ?_
      refine And.intro (ob_indexAddr rfl (wt_none rfl) (ev_dep (j := 0) (by kernel_rfl) rfl rfl) (ev_const _) (fun _ _ _ hx hy => ⟨_, by rw [hx, hy]; exact index3 (k := 0) Tryz.underlying22 (by kernel_rfl) hltm _, rfl⟩)) ?_
      refine And.intro (ob_load rfl (wt_none rfl) (ev_dep (j := 1) (by kernel_rfl) rfl rfl) (fun w2 hb => load3 Tryz.underlying28 rfl (by kernel_rfl) ((hb.cell (World.block_lt_of_cell? w1 _ zm0)).trans zm0) ((hb.cell (World.block_lt_of_cell? w1 _ zm1)).trans zm1) ((hb.cell (World.block_lt_of_cell? w1 _ zm2)).trans zm2)) (fun _ _ => rfl)) ?_
      refine And.intro (ob_alloc (z := .agg #[.bool false, .slice none 0 0, .slice none 0 0]) rfl rfl (fun _ => by kernel_rfl) (fun _ _ hB h => ⟨_, rfl, hB, h⟩)) ?_
      trivial
    case done2 =>
      refine fun w2 hb2 v0 h0 v1 h1 v2 h2 v3 h3 d3 b hbf => ?_
      obtain rfl := h0; obtain rfl := h1; obtain rfl := h2
      obtain ⟨g2_3, rfl, hg3, B3⟩ := h3
      simp only [Act.put, List.setIfInBounds_toArray, List.set_cons_zero, List.set_cons_succ] at hbf
      subst hbf
      replace BR0 := BR0.below hb2
      replace zms := zms.below hb2
      replace zmd := zmd.below hb2
      replace bb := bb.trans (hb2.mono bb.size)
      have hsz2 := bb.size
      have BA5 := B3
      have q2 := zms
      have d2 := zmd
      refine ops_store (i := 4) rfl rfl rfl rfl rfl rfl (cells := [.bool (ngB (q0).num), .slice Am (digs 4294967296 (q0).num.natAbs).length cm, .slice Dm (digs 4294967296 (q0).den).length em]) rfl BA5 rfl (by kernel_rfl) (one3 rfl rfl rfl) fun w3 hg3 BN3 => ?_
      replace q2 := off q2 BA5 no_ints3 hg3
      replace d2 := off d2 BA5 no_ints3 hg3
      replace BR0 := BR0.grown hg3 (by omega)
      replace bb := bb.trans ((Below.refl _ _).grown hg3 bb.size (fun g hg => by injection hg with hg; omega))
      have hsz3 := bb.size
      have Bm : Blk w3 (g2_3) _ _ := BN3
      have kms := q2
      have kmd := d2
      have kmz : IsZ w3 (.agg #[.bool (ngB (q0).num), .slice Am (digs 4294967296 (q0).num.natAbs).length cm]) ((q0).num) := ⟨_, rfl, kms⟩
      have km : IsQ w3 (.agg #[.bool (ngB (q0).num), .slice Am (digs 4294967296 (q0).num.natAbs).length cm, .slice Dm (digs 4294967296 (q0).den).length em]) (q0) := ⟨_, _, rfl, kms, kmd⟩
      refine ops_done ?_
      have HS0 : Hid (lowq q0 (qs.take 1) = q0) := by show _ = _; rw [lowq_take HQ0.out]; simp [lowq, minq]
      go_wp2
      go_loopw [6] (fun v6 wr => ∃ k : Nat, 1 ≤ k ∧ k ≤ qs.length ∧ HoldQ wr g2_3 (lowq q0 (qs.take k)) ∧ Blk wr w.heap.size 28 #[.bool false, .slice none 0 0, .slice none 0 0] ∧ Below w.heap.size w wr ∧ g2_3 < wr.heap.size ∧ v6 = .int .i64 (k : Int)) (fun v6 _ => qs.length - (intOf v6).toNat)
      case atStart => exact ⟨1, by omega, by omega, by rw [HS0.out]; exact ⟨_, _, Bm, kms, kmd⟩, BR0, bb, Bm.lt, rfl⟩
      case round =>
        obtain ⟨k, hk1, hk, hH, hR, hbw, hGl, rfl⟩ := hrel
        clear Bm kms kmd kmz km BR0 bb
        have BR0 := hR
        have bb := hbw
        obtain ⟨s, hs⟩ : ∃ s, s = lowq q0 (qs.take k) := ⟨_, rfl⟩
        rw [← hs] at hH
        have HS := Lib.hid hs
        clear hs hR hbw
        have ls : lenQ s 2 := by rw [HS.out]; exact lenQ_lowq (HL.out q0 (List.mem_of_getElem? HQ0.out)) fun x hx => HL.out x (List.mem_of_mem_take hx)
        obtain ⟨us, ts, Bs, kss, ksd⟩ := hH
        obtain ⟨As, cs, rfl, _⟩ := id kss
        obtain ⟨Ds, es, rfl, _⟩ := id ksd
        have ksz : IsZ wr (.agg #[.bool (ngB (s).num), .slice As (digs 4294967296 (s).num.natAbs).length cs]) (s).num := ⟨_, rfl, kss⟩
        have ks : IsQ wr (.agg #[.bool (ngB (s).num), .slice As (digs 4294967296 (s).num.natAbs).length cs, .slice Ds (digs 4294967296 (s).den).length es]) (s) := ⟨_, _, rfl, kss, ksd⟩
        have hszr := bb.size
        by_cases hlt : k < qs.length
        · obtain ⟨x, hx⟩ : ∃ x, qs[k]? = some x := ⟨_, List.getElem?_eq_getElem hlt⟩
          have lx : lenQ x 2 := HL.out _ (List.mem_of_getElem? hx)
          have HX := Lib.hid hx
          clear hx
          obtain ⟨t, ht⟩ : ∃ t, t = ordq x s := ⟨_, rfl⟩
          have HT := Lib.hid ht
          obtain ⟨ux, tx, hltx, zx0, zx1, zx2, zxs, zxd⟩ := (sl0.below bb).at2 HX.out
          obtain ⟨Ax, cx, rfl, _⟩ := id zxs
          obtain ⟨Dx, ex, rfl, _⟩ := id zxd
          have zx : IsQ wr (.agg #[.bool (ngB (x).num), .slice Ax (digs 4294967296 (x).num.natAbs).length cx, .slice Dx (digs 4294967296 (x).den).length ex]) (x) := ⟨_, _, rfl, zxs, zxd⟩
          by_cases h0 : x < s
          · have HB : Hid (decide (t < 0) = true) := decide_eq_true (by rw [ht]; exact ordq_neg.2 h0)
            have HN : Hid (x = lowq q0 (qs.take (k + 1))) := by show _ = _; rw [lowq_take HX.out, ← HS.out, minq_pos h0]
            clear ht h0
            have sB := bb.size
            go_upto_region 7 with (fail)
            refine flow 8 [Pd.eq (.func (.func 34) #[] #[]), Pd.eq (.slice (some ⟨g0_, o0_, none⟩) qs.length c0), Pd.eq (.int .i64 (k : Int)), Pd.eq (.pointer (some ⟨g0_, o0_ + k * 3, none⟩)), Pd.eq (.agg #[.bool (ngB (x).num), .slice Ax (digs 4294967296 (x).num.natAbs).length cx, .slice Dx (digs 4294967296 (x).den).length ex]), Pd.eq (.agg #[.bool (ngB (s).num), .slice As (digs 4294967296 (s).num.natAbs).length cs, .slice Ds (digs 4294967296 (s).den).length es]), Pd.eq (.int .i64 t), Pd.eq (.bool true)] (by kernel_rfl) (by kernel_rfl) ?ob3 ?done3
            case ob3 =>
              refine And.intro (ob_move rfl (wt_none rfl) (ev_far rfl rfl) (fun _ _ h => h)) ?_
              refine And.intro (ob_move rfl (wt_none rfl) (ev_far rfl rfl) (fun _ _ h => h)) ?_
              refine And.intro (ob_move rfl (wt_none rfl) (ev_far rfl rfl) (fun _ _ h => h)) ?_
              refine And.intro (ob_indexAddr rfl (wt_none rfl) (ev_dep (j := 1) (by kernel_rfl) rfl rfl) (ev_dep (j := 2) (by kernel_rfl) rfl rfl) (fun _ _ _ hx hy => ⟨_, by rw [hx, hy]; exact index3 (k := k) Tryz.underlying22 (by kernel_rfl) hltx _, rfl⟩)) ?_
              refine And.intro (ob_load rfl (wt_none rfl) (ev_dep (j := 3) (by kernel_rfl) rfl rfl) (fun w2 hb => load3 Tryz.underlying28 rfl (by kernel_rfl) ((hb.cell (World.block_lt_of_cell? wr _ zx0)).trans zx0) ((hb.cell (World.block_lt_of_cell? wr _ zx1)).trans zx1) ((hb.cell (World.block_lt_of_cell? wr _ zx2)).trans zx2)) (fun _ _ => rfl)) ?_
              refine And.intro (ob_load rfl (wt_none rfl) (ev_far rfl rfl) (fun w2 hb => run_loadAll Tryz.underlying28 rfl (by kernel_rfl) (Bs.drew.below hb)) (fun _ _ => rfl)) ?_
              refine And.intro (ob_callv2 rfl (ev_dep (j := 0) (by kernel_rfl) rfl rfl) Tryz.func34 (by kernel_rfl) (wt_none rfl) (ev_dep (j := 4) (by kernel_rfl) rfl rfl) (ev_dep (j := 5) (by kernel_rfl) rfl rfl) (fun w2 u0 u1 hb h0 h1 => by obtain rfl := h0; obtain rfl := h1; exact (cmp8_any _ _ x s t _ (zx.drew.below hb) (ks.drew.below hb) (lx.mono (by decide)) (ls.mono (by decide)) HT.out).mono fun e w3 h => RetV.pd h)) ?_
              refine And.intro (ob_bin rfl (wt_none rfl) (ev_dep (j := 6) (by kernel_rfl) rfl rfl) (ev_const _) (fun _ _ _ hx hy => ⟨.bool true, by rw [hx, hy, bin_lss_int, HB.out], rfl⟩)) ?_
              trivial
            case done3 =>
              refine fun w6 hb6 v0 h0 v1 h1 v2 h2 v3 h3 v4 h4 v5 h5 v6 h6 v7 h7 b hbf => ?_
              obtain rfl := h0; obtain rfl := h1; obtain rfl := h2; obtain rfl := h3; obtain rfl := h4; obtain rfl := h5; obtain rfl := h6; obtain rfl := h7
              simp only [Act.put, List.setIfInBounds_toArray, List.set_cons_zero, List.set_cons_succ] at hbf
              subst hbf
              replace BR0 := BR0.below hb6
              replace Bs := Bs.below hb6
              replace kss := kss.below hb6
              replace ksd := ksd.below hb6
              replace ksz := ksz.below hb6
              replace ks := ks.below hb6
              replace zxs := zxs.below hb6
              replace zxd := zxd.below hb6
              replace bb := bb.trans (hb6.mono bb.size)
              have hsz6 := bb.size
              refine any_done (by kernel_rfl) ?_
              clear zx zx0 zx1 zx2
              obtain ⟨uy, ty, hlty, zy0, zy1, zy2, zys, zyd⟩ := (sl0.below bb).at2 HX.out
              obtain ⟨Ay, cy, rfl, _⟩ := id zys
              obtain ⟨Dy, ey, rfl, _⟩ := id zyd
              have zy : IsQ w6 (.agg #[.bool (ngB (x).num), .slice Ay (digs 4294967296 (x).num.natAbs).length cy, .slice Dy (digs 4294967296 (x).den).length ey]) (x) := ⟨_, _, rfl, zys, zyd⟩
              have sB := bb.size
              go_upto_region 8 with (fail)
              refine flowp 4 [Pd.eq (.slice (some ⟨g0_, o0_, none⟩) qs.length c0), Pd.eq (.int .i64 (k : Int)), Pd.eq (.pointer (some ⟨g0_, o0_ + k * 3, none⟩)), Pd.eq (.agg #[.bool (ngB (x).num), .slice Ay (digs 4294967296 (x).num.natAbs).length cy, .slice Dy (digs 4294967296 (x).den).length ey])] (by kernel_rfl) ?ob5 ?done5
              case ob5 =>
                refine And.intro (ob_move rfl (wt_none rfl) (ev_far rfl rfl) (fun _ _ h => h)) ?_
                refine And.intro (ob_move rfl (wt_none rfl) (ev_far rfl rfl) (fun _ _ h => h)) ?_
                refine And.intro (ob_indexAddr rfl (wt_none rfl) (ev_dep (j := 0) (by kernel_rfl) rfl rfl) (ev_dep (j := 1) (by kernel_rfl) rfl rfl) (fun _ _ _ hx hy => ⟨_, by rw [hx, hy]; exact index3 (k := k) Tryz.underlying22 (by kernel_rfl) hlty _, rfl⟩)) ?_
                refine And.intro (ob_load rfl (wt_none rfl) (ev_dep (j := 2) (by kernel_rfl) rfl rfl) (fun w2 hb => load3 Tryz.underlying28 rfl (by kernel_rfl) ((hb.cell (World.block_lt_of_cell? w6 _ zy0)).trans zy0) ((hb.cell (World.block_lt_of_cell? w6 _ zy1)).trans zy1) ((hb.cell (World.block_lt_of_cell? w6 _ zy2)).trans zy2)) (fun _ _ => rfl)) ?_
                trivial
              case done5 =>
                refine fun w7 hb7 v0 h0 v1 h1 v2 h2 v3 h3 b hbf => ?_
                obtain rfl := h0; obtain rfl := h1; obtain rfl := h2; obtain rfl := h3
                simp only [Act.put, List.setIfInBounds_toArray, List.set_cons_zero, List.set_cons_succ] at hbf
                subst hbf
                replace BR0 := BR0.below hb7
                replace Bs := Bs.below hb7
                replace kss := kss.below hb7
                replace ksd := ksd.below hb7
                replace ksz := ksz.below hb7
                replace ks := ks.below hb7
                replace zys := zys.below hb7
                replace zyd := zyd.below hb7
                replace bb := bb.trans (hb7.mono bb.size)
                have hsz7 := bb.size
                have q3 := zys
                have d3 := zyd
                refine ops_store (i := 4) rfl rfl rfl rfl rfl rfl (cells := [.bool (ngB (x).num), .slice Ay (digs 4294967296 (x).num.natAbs).length cy, .slice Dy (digs 4294967296 (x).den).length ey]) rfl Bs rfl (by kernel_rfl) (one3 rfl rfl rfl) fun w8 hg8 BN8 => ?_
                replace q3 := off q3 Bs no_ints3 hg8
                replace d3 := off d3 Bs no_ints3 hg8
                replace BR0 := BR0.grown hg8 (by omega)
                replace bb := bb.trans ((Below.refl _ _).grown hg8 bb.size (fun g hg => by injection hg with hg; omega))
                have hsz8 := bb.size
                have By : Blk w8 (g2_3) _ _ := BN8
                have kys := q3
                have kyd := d3
                have kyz : IsZ w8 (.agg #[.bool (ngB (x).num), .slice Ay (digs 4294967296 (x).num.natAbs).length cy]) ((x).num) := ⟨_, rfl, kys⟩
                have ky : IsQ w8 (.agg #[.bool (ngB (x).num), .slice Ay (digs 4294967296 (x).num.natAbs).length cy, .slice Dy (digs 4294967296 (x).den).length ey]) (x) := ⟨_, _, rfl, kys, kyd⟩
                refine ops_done ?_
                have hsk : qs.length - (k + 1) < qs.length - k := by omega
                go_wp2
                go_roundw
                case rel => exact ⟨k + 1, by omega, by omega, by rw [← HN.out]; exact ⟨_, _, By, kys, kyd⟩, BR0, bb, By.lt, by go_num⟩
                case measure => simp [intOf]; omega
          · have HB : Hid (decide (t < 0) = false) := decide_eq_false (by rw [ht]; exact fun h => h0 (ordq_neg.1 h))
            have HN : Hid (s = lowq q0 (qs.take (k + 1))) := by show _ = _; rw [lowq_take HX.out, ← HS.out, minq_neg h0]
            clear ht h0
            have sB := bb.size
            go_upto_region 7 with (fail)
            refine flow 8 [Pd.eq (.func (.func 34) #[] #[]), Pd.eq (.slice (some ⟨g0_, o0_, none⟩) qs.length c0), Pd.eq (.int .i64 (k : Int)), Pd.eq (.pointer (some ⟨g0_, o0_ + k * 3, none⟩)), Pd.eq (.agg #[.bool (ngB (x).num), .slice Ax (digs 4294967296 (x).num.natAbs).length cx, .slice Dx (digs 4294967296 (x).den).length ex]), Pd.eq (.agg #[.bool (ngB (s).num), .slice As (digs 4294967296 (s).num.natAbs).length cs, .slice Ds (digs 4294967296 (s).den).length es]), Pd.eq (.int .i64 t), Pd.eq (.bool false)] (by kernel_rfl) (by kernel_rfl) ?ob4 ?done4
            case ob4 =>
              refine And.intro (ob_move rfl (wt_none rfl) (ev_far rfl rfl) (fun _ _ h => h)) ?_
              refine And.intro (ob_move rfl (wt_none rfl) (ev_far rfl rfl) (fun _ _ h => h)) ?_
              refine And.intro (ob_move rfl (wt_none rfl) (ev_far rfl rfl) (fun _ _ h => h)) ?_
              refine And.intro (ob_indexAddr rfl (wt_none rfl) (ev_dep (j := 1) (by kernel_rfl) rfl rfl) (ev_dep (j := 2) (by kernel_rfl) rfl rfl) (fun _ _ _ hx hy => ⟨_, by rw [hx, hy]; exact index3 (k := k) Tryz.underlying22 (by kernel_rfl) hltx _, rfl⟩)) ?_
              refine And.intro (ob_load rfl (wt_none rfl) (ev_dep (j := 3) (by kernel_rfl) rfl rfl) (fun w2 hb => load3 Tryz.underlying28 rfl (by kernel_rfl) ((hb.cell (World.block_lt_of_cell? wr _ zx0)).trans zx0) ((hb.cell (World.block_lt_of_cell? wr _ zx1)).trans zx1) ((hb.cell (World.block_lt_of_cell? wr _ zx2)).trans zx2)) (fun _ _ => rfl)) ?_
              refine And.intro (ob_load rfl (wt_none rfl) (ev_far rfl rfl) (fun w2 hb => run_loadAll Tryz.underlying28 rfl (by kernel_rfl) (Bs.drew.below hb)) (fun _ _ => rfl)) ?_
              refine And.intro (ob_callv2 rfl (ev_dep (j := 0) (by kernel_rfl) rfl rfl) Tryz.func34 (by kernel_rfl) (wt_none rfl) (ev_dep (j := 4) (by kernel_rfl) rfl rfl) (ev_dep (j := 5) (by kernel_rfl) rfl rfl) (fun w2 u0 u1 hb h0 h1 => by obtain rfl := h0; obtain rfl := h1; exact (cmp8_any _ _ x s t _ (zx.drew.below hb) (ks.drew.below hb) (lx.mono (by decide)) (ls.mono (by decide)) HT.out).mono fun e w3 h => RetV.pd h)) ?_
              refine And.intro (ob_bin rfl (wt_none rfl) (ev_dep (j := 6) (by kernel_rfl) rfl rfl) (ev_const _) (fun _ _ _ hx hy => ⟨.bool false, by rw [hx, hy, bin_lss_int, HB.out], rfl⟩)) ?_
              trivial
            case done4 =>
              refine fun w6 hb6 v0 h0 v1 h1 v2 h2 v3 h3 v4 h4 v5 h5 v6 h6 v7 h7 b hbf => ?_
              obtain rfl := h0; obtain rfl := h1; obtain rfl := h2; obtain rfl := h3; obtain rfl := h4; obtain rfl := h5; obtain rfl := h6; obtain rfl := h7
              simp only [Act.put, List.setIfInBounds_toArray, List.set_cons_zero, List.set_cons_succ] at hbf
              subst hbf
              replace BR0 := BR0.below hb6
              replace Bs := Bs.below hb6
              replace kss := kss.below hb6
              replace ksd := ksd.below hb6
              replace ksz := ksz.below hb6
              replace ks := ks.below hb6
              replace bb := bb.trans (hb6.mono bb.size)
              have hsz6 := bb.size
              refine any_done (by kernel_rfl) ?_
              have hsk : qs.length - (k + 1) < qs.length - k := by omega
              go_wp2
              go_roundw
              case rel => exact ⟨k + 1, by omega, by omega, by rw [← HN.out]; exact ⟨_, _, Bs, kss, ksd⟩, BR0, bb, Bs.lt, by go_num⟩
              case measure => simp [intOf]; omega
        · have HN : Hid (s = leastq qs) := by show _ = _; rw [HS.out, List.take_of_length_le (by omega)]; exact lowq_own HQ0.out
          have sB := bb.size
          go_upto_region 9 with (fail)
          refine flowp 1 [Pd.eq (.agg #[.bool (ngB (s).num), .slice As (digs 4294967296 (s).num.natAbs).length cs, .slice Ds (digs 4294967296 (s).den).length es])] (by kernel_rfl) ?ob6 ?done6
          case ob6 =>
            refine And.intro (ob_load rfl (wt_none rfl) (ev_far rfl rfl) (fun w2 hb => run_loadAll Tryz.underlying28 rfl (by kernel_rfl) (Bs.below hb)) (fun _ _ => rfl)) ?_
            trivial
          case done6 =>
            refine fun w5 hb5 v0 h0 b hbf => ?_
            obtain rfl := h0
            simp only [Act.put, List.setIfInBounds_toArray, List.set_cons_zero, List.set_cons_succ] at hbf
            subst hbf
            replace BR0 := BR0.below hb5
            replace Bs := Bs.below hb5
            replace kss := kss.below hb5
            replace ksd := ksd.below hb5
            replace ksz := ksz.below hb5
            replace ks := ks.below hb5
            replace bb := bb.trans (hb5.mono bb.size)
            have hsz5 := bb.size
            refine ops_store (i := 1) rfl rfl rfl rfl rfl rfl (cells := [.bool (ngB (s).num), .slice As (digs 4294967296 (s).num.natAbs).length cs, .slice Ds (digs 4294967296 (s).den).length es]) rfl BR0 rfl (by kernel_rfl) (one3 rfl rfl rfl) fun w9 hg9 B9 => ?_
            have k9 := off kss BR0 no_ints3 hg9
            have d9 := off ksd BR0 no_ints3 hg9
            have bb9 := bb.trans ((Below.refl _ _).grown hg9 bb.size (fun g hg => by injection hg with hg; omega))
            obtain ⟨C0, C1, C2, _, _, _⟩ := three B9
            refine ops_done ?_
            go_wp2
            rw [← HN.out]
            exact bodyPost_ret (v := .agg #[.bool (ngB (s).num), .slice As (digs 4294967296 (s).num.natAbs).length cs, .slice Ds (digs 4294967296 (s).den).length es]) (by simp [results, Tryz.results58, go_sem, C0, C1, C2]) rfl ⟨_, rfl, ⟨_, _, rfl, k9, d9⟩, bb9⟩
set_option maxHeartbeats 3200000 in
set_option maxRecDepth 100000 in
theorem maxf_any (a0 : Value) (qs : List Rat) (w : World) (h0 : SlF .u64 4294967296 w a0 qs) (hne : qs ≠ []) (hl : ∀ q ∈ qs, lenQ q 2) :
    Calls Tryz.prog 59 #[a0, .func (.func 34) #[] #[]] w (RetQn (greatq qs) w) := by
  have sl0 := h0
  obtain ⟨A0, c0, rfl, hc0, hm0⟩ := h0.shape
  unfold maxLen at hm0
  have HL := Lib.hid hl
  have hln : 0 < qs.length := List.length_pos_iff.2 hne
  obtain ⟨q0, hq0⟩ : ∃ q0, qs[0]? = some q0 := ⟨_, List.getElem?_eq_getElem hln⟩
  have HQ0 := Lib.hid hq0
  clear hq0
  have HLB : Hid (decide (((qs.length : Nat) : Int) < 1) = false) := decide_eq_false (by omega)
  go_enter Tryz.func59, Tryz.ntmps59
  go_upto_region 1 with (fail)
  obtain ⟨wx, hwx, bb, BR0, hsz⟩ := vars1 w 28 #[.bool false, .slice none 0 0, .slice none 0 0]
  rw [hwx]
  clear hwx
  have hsz0 := bb.size
  obtain ⟨g0_, o0_, cp0_, hA0_, _, _, _⟩ := sl0.place hne
  injection hA0_ with e1_ _ e3_
  subst e1_
  subst e3_
  have sB := bb.size
  refine flowp 3 [Pd.eq (.slice (some ⟨g0_, o0_, none⟩) qs.length c0), Pd.eq (.int .i64 ((qs.length : Nat) : Int)), Pd.eq (.bool false)] (by kernel_rfl) ?ob7 ?done7
  case ob7 =>
    refine And.intro (ob_move rfl (wt_none rfl) (ev_far rfl rfl) (fun _ _ h => h)) ?_
    refine And.intro (ob_len rfl (wt_none rfl) (ev_dep (j := 0) (by kernel_rfl) rfl rfl) (fun _ _ hx => ⟨_, by rw [hx]; exact len_slice Tryz.underlying22 _ _ _ _, rfl⟩)) ?_
    refine And.intro (ob_bin rfl (wt_none rfl) (ev_dep (j := 1) (by kernel_rfl) rfl rfl) (ev_const _) (fun _ _ _ hx hy => ⟨.bool false, by rw [hx, hy, bin_lss_int, HLB.out], rfl⟩)) ?_
    trivial
  case done7 =>
    refine fun w1 hb1 v0 h0 v1 h1 v2 h2 b hbf => ?_
    obtain rfl := h0; obtain rfl := h1; obtain rfl := h2
    simp only [Act.put, List.setIfInBounds_toArray, List.set_cons_zero, List.set_cons_succ] at hbf
    subst hbf
    replace BR0 := BR0.below hb1
    replace bb := bb.trans (hb1.mono bb.size)
    have hsz1 := bb.size
    refine ops_done ?_
    obtain ⟨um, tm, hltm, zm0, zm1, zm2, zms, zmd⟩ := (sl0.below bb).at2 HQ0.out
    obtain ⟨Am, cm, rfl, _⟩ := id zms
    obtain ⟨Dm, em, rfl, _⟩ := id zmd
    have zm : IsQ w1 (.agg #[.bool (ngB (q0).num), .slice Am (digs 4294967296 (q0).num.natAbs).length cm, .slice Dm (digs 4294967296 (q0).den).length em]) (q0) := ⟨_, _, rfl, zms, zmd⟩
    have sB := bb.size
    go_upto_region 3 with (fail)
    have lt1_4 := Blk.lt BR0
    refine flowp 4 [Pd.eq (.slice (some ⟨g0_, o0_, none⟩) qs.length c0), Pd.eq (.pointer (some ⟨g0_, o0_ + 0 * 3, none⟩)), Pd.eq (.agg #[.bool (ngB (q0).num), .slice Am (digs 4294967296 (q0).num.natAbs).length cm, .slice Dm (digs 4294967296 (q0).den).length em]), pn 28 #[.bool false, .slice none 0 0, .slice none 0 0] w1.heap.size] (by kernel_rfl) ?ob8 ?done8
    case ob8 =>
      refine And.intro (ob_move rfl (wt_none rfl) (ev_far rfl rfl) (fun _ _ h => h)) ?_
      refine And.intro (ob_indexAddr rfl (wt_none rfl) (ev_dep (j := 0) (by kernel_rfl) rfl rfl) (ev_const _) (fun _ _ _ hx hy => ⟨_, by rw [hx, hy]; exact index3 (k := 0) Tryz.underlying22 (by kernel_rfl) hltm _, rfl⟩)) ?_
      refine And.intro (ob_load rfl (wt_none rfl) (ev_dep (j := 1) (by kernel_rfl) rfl rfl) (fun w2 hb => load3 Tryz.underlying28 rfl (by kernel_rfl) ((hb.cell (World.block_lt_of_cell? w1 _ zm0)).trans zm0) ((hb.cell (World.block_lt_of_cell? w1 _ zm1)).trans zm1) ((hb.cell (World.block_lt_of_cell? w1 _ zm2)).trans zm2)) (fun _ _ => rfl)) ?_
      refine And.intro (ob_alloc (z := .agg #[.bool false, .slice none 0 0, .slice none 0 0]) rfl rfl (fun _ => by kernel_rfl) (fun _ _ hB h => ⟨_, rfl, hB, h⟩)) ?_
      trivial
    case done8 =>
      refine fun w2 hb2 v0 h0 v1 h1 v2 h2 v3 h3 d3 b hbf => ?_
      obtain rfl := h0; obtain rfl := h1; obtain rfl := h2
      obtain ⟨g8_3, rfl, hg3, B3⟩ := h3
      simp only [Act.put, List.setIfInBounds_toArray, List.set_cons_zero, List.set_cons_succ] at hbf
      subst hbf
      replace BR0 := BR0.below hb2
      replace zms := zms.below hb2
      replace zmd := zmd.below hb2
      replace bb := bb.trans (hb2.mono bb.size)
      have hsz2 := bb.size
      have BA5 := B3
      have q2 := zms
      have d2 := zmd
      refine ops_store (i := 4) rfl rfl rfl rfl rfl rfl (cells := [.bool (ngB (q0).num), .slice Am (digs 4294967296 (q0).num.natAbs).length cm, .slice Dm (digs 4294967296 (q0).den).length em]) rfl BA5 rfl (by kernel_rfl) (one3 rfl rfl rfl) fun w3 hg3 BN3 => ?_
      replace q2 := off q2 BA5 no_ints3 hg3
      replace d2 := off d2 BA5 no_ints3 hg3
      replace BR0 := BR0.grown hg3 (by omega)
      replace bb := bb.trans ((Below.refl _ _).grown hg3 bb.size (fun g hg => by injection hg with hg; omega))
      have hsz3 := bb.size
      have Bm : Blk w3 (g8_3) _ _ := BN3
      have kms := q2
      have kmd := d2
      have kmz : IsZ w3 (.agg #[.bool (ngB (q0).num), .slice Am (digs 4294967296 (q0).num.natAbs).length cm]) ((q0).num) := ⟨_, rfl, kms⟩
      have km : IsQ w3 (.agg #[.bool (ngB (q0).num), .slice Am (digs 4294967296 (q0).num.natAbs).length cm, .slice Dm (digs 4294967296 (q0).den).length em]) (q0) := ⟨_, _, rfl, kms, kmd⟩
      refine ops_done ?_
      have HS0 : Hid (higq q0 (qs.take 1) = q0) := by show _ = _; rw [higq_take HQ0.out]; simp [higq, maxq]
      go_wp2
      go_loopw [6] (fun v6 wr => ∃ k : Nat, 1 ≤ k ∧ k ≤ qs.length ∧ HoldQ wr g8_3 (higq q0 (qs.take k)) ∧ Blk wr w.heap.size 28 #[.bool false, .slice none 0 0, .slice none 0 0] ∧ Below w.heap.size w wr ∧ g8_3 < wr.heap.size ∧ v6 = .int .i64 (k : Int)) (fun v6 _ => qs.length - (intOf v6).toNat)
      case atStart => exact ⟨1, by omega, by omega, by rw [HS0.out]; exact ⟨_, _, Bm, kms, kmd⟩, BR0, bb, Bm.lt, rfl⟩
      case round =>
        obtain ⟨k, hk1, hk, hH, hR, hbw, hGl, rfl⟩ := hrel
        clear Bm kms kmd kmz km BR0 bb
        have BR0 := hR
        have bb := hbw
        obtain ⟨s, hs⟩ : ∃ s, s = higq q0 (qs.take k) := ⟨_, rfl⟩
        rw [← hs] at hH
        have HS := Lib.hid hs
        clear hs hR hbw
        have ls : lenQ s 2 := by rw [HS.out]; exact lenQ_higq (HL.out q0 (List.mem_of_getElem? HQ0.out)) fun x hx => HL.out x (List.mem_of_mem_take hx)
        obtain ⟨us, ts, Bs, kss, ksd⟩ := hH
        obtain ⟨As, cs, rfl, _⟩ := id kss
        obtain ⟨Ds, es, rfl, _⟩ := id ksd
        have ksz : IsZ wr (.agg #[.bool (ngB (s).num), .slice As (digs 4294967296 (s).num.natAbs).length cs]) (s).num := ⟨_, rfl, kss⟩
        have ks : IsQ wr (.agg #[.bool (ngB (s).num), .slice As (digs 4294967296 (s).num.natAbs).length cs, .slice Ds (digs 4294967296 (s).den).length es]) (s) := ⟨_, _, rfl, kss, ksd⟩
        have hszr := bb.size
        by_cases hlt : k < qs.length
        · obtain ⟨x, hx⟩ : ∃ x, qs[k]? = some x := ⟨_, List.getElem?_eq_getElem hlt⟩
          have lx : lenQ x 2 := HL.out _ (List.mem_of_getElem? hx)
          have HX := Lib.hid hx
          clear hx
          obtain ⟨t, ht⟩ : ∃ t, t = ordq x s := ⟨_, rfl⟩
          have HT := Lib.hid ht
          obtain ⟨ux, tx, hltx, zx0, zx1, zx2, zxs, zxd⟩ := (sl0.below bb).at2 HX.out
          obtain ⟨Ax, cx, rfl, _⟩ := id zxs
          obtain ⟨Dx, ex, rfl, _⟩ := id zxd
          have zx : IsQ wr (.agg #[.bool (ngB (x).num), .slice Ax (digs 4294967296 (x).num.natAbs).length cx, .slice Dx (digs 4294967296 (x).den).length ex]) (x) := ⟨_, _, rfl, zxs, zxd⟩
          by_cases h0 : s < x
          · have HB : Hid (decide (0 < t) = true) := decide_eq_true (by rw [ht]; exact ordq_pos.2 h0)
            have HN : Hid (x = higq q0 (qs.take (k + 1))) := by show _ = _; rw [higq_take HX.out, ← HS.out, maxq_pos h0]
            clear ht h0
            have sB := bb.size
            go_upto_region 7 with (fail)
            refine flow 8 [Pd.eq (.func (.func 34) #[] #[]), Pd.eq (.slice (some ⟨g0_, o0_, none⟩) qs.length c0), Pd.eq (.int .i64 (k : Int)), Pd.eq (.pointer (some ⟨g0_, o0_ + k * 3, none⟩)), Pd.eq (.agg #[.bool (ngB (x).num), .slice Ax (digs 4294967296 (x).num.natAbs).length cx, .slice Dx (digs 4294967296 (x).den).length ex]), Pd.eq (.agg #[.bool (ngB (s).num), .slice As (digs 4294967296 (s).num.natAbs).length cs, .slice Ds (digs 4294967296 (s).den).length es]), Pd.eq (.int .i64 t), Pd.eq (.bool true)] (by kernel_rfl) (by kernel_rfl) ?ob9 ?done9
            case ob9 =>
              refine And.intro (ob_move rfl (wt_none rfl) (ev_far rfl rfl) (fun _ _ h => h)) ?_
              refine And.intro (ob_move rfl (wt_none rfl) (ev_far rfl rfl) (fun _ _ h => h)) ?_
              refine And.intro (ob_move rfl (wt_none rfl) (ev_far rfl rfl) (fun _ _ h => h)) ?_
              refine And.intro (ob_indexAddr rfl (wt_none rfl) (ev_dep (j := 1) (by kernel_rfl) rfl rfl) (ev_dep (j := 2) (by kernel_rfl) rfl rfl) (fun _ _ _ hx hy => ⟨_, by rw [hx, hy]; exact index3 (k := k) Tryz.underlying22 (by kernel_rfl) hltx _, rfl⟩)) ?_
              refine And.intro (ob_load rfl (wt_none rfl) (ev_dep (j := 3) (by kernel_rfl) rfl rfl) (fun w2 hb => load3 Tryz.underlying28 rfl (by kernel_rfl) ((hb.cell (World.block_lt_of_cell? wr _ zx0)).trans zx0) ((hb.cell (World.block_lt_of_cell? wr _ zx1)).trans zx1) ((hb.cell (World.block_lt_of_cell? wr _ zx2)).trans zx2)) (fun _ _ => rfl)) ?_
              refine And.intro (ob_load rfl (wt_none rfl) (ev_far rfl rfl) (fun w2 hb => run_loadAll Tryz.underlying28 rfl (by kernel_rfl) (Bs.drew.below hb)) (fun _ _ => rfl)) ?_
              refine And.intro (ob_callv2 rfl (ev_dep (j := 0) (by kernel_rfl) rfl rfl) Tryz.func34 (by kernel_rfl) (wt_none rfl) (ev_dep (j := 4) (by kernel_rfl) rfl rfl) (ev_dep (j := 5) (by kernel_rfl) rfl rfl) (fun w2 u0 u1 hb h0 h1 => by obtain rfl := h0; obtain rfl := h1; exact (cmp8_any _ _ x s t _ (zx.drew.below hb) (ks.drew.below hb) (lx.mono (by decide)) (ls.mono (by decide)) HT.out).mono fun e w3 h => RetV.pd h)) ?_
              refine And.intro (ob_bin rfl (wt_none rfl) (ev_dep (j := 6) (by kernel_rfl) rfl rfl) (ev_const _) (fun _ _ _ hx hy => ⟨.bool true, by rw [hx, hy, bin_gtr_int, HB.out], rfl⟩)) ?_
              trivial
            case done9 =>
              refine fun w6 hb6 v0 h0 v1 h1 v2 h2 v3 h3 v4 h4 v5 h5 v6 h6 v7 h7 b hbf => ?_
              obtain rfl := h0; obtain rfl := h1; obtain rfl := h2; obtain rfl := h3; obtain rfl := h4; obtain rfl := h5; obtain rfl := h6; obtain rfl := h7
              simp only [Act.put, List.setIfInBounds_toArray, List.set_cons_zero, List.set_cons_succ] at hbf
              subst hbf
              replace BR0 := BR0.below hb6
              replace Bs := Bs.below hb6
              replace kss := kss.below hb6
              replace ksd := ksd.below hb6
              replace ksz := ksz.below hb6
              replace ks := ks.below hb6
              replace zxs := zxs.below hb6
              replace zxd := zxd.below hb6
              replace bb := bb.trans (hb6.mono bb.size)
              have hsz6 := bb.size
              refine any_done (by kernel_rfl) ?_
              clear zx zx0 zx1 zx2
              obtain ⟨uy, ty, hlty, zy0, zy1, zy2, zys, zyd⟩ := (sl0.below bb).at2 HX.out
              obtain ⟨Ay, cy, rfl, _⟩ := id zys
              obtain ⟨Dy, ey, rfl, _⟩ := id zyd
              have zy : IsQ w6 (.agg #[.bool (ngB (x).num), .slice Ay (digs 4294967296 (x).num.natAbs).length cy, .slice Dy (digs 4294967296 (x).den).length ey]) (x) := ⟨_, _, rfl, zys, zyd⟩
              have sB := bb.size
              go_upto_region 8 with (fail)
              refine flowp 4 [Pd.eq (.slice (some ⟨g0_, o0_, none⟩) qs.length c0), Pd.eq (.int .i64 (k : Int)), Pd.eq (.pointer (some ⟨g0_, o0_ + k * 3, none⟩)), Pd.eq (.agg #[.bool (ngB (x).num), .slice Ay (digs 4294967296 (x).num.natAbs).length cy, .slice Dy (digs 4294967296 (x).den).length ey])] (by kernel_rfl) ?ob11 ?done11
              case ob11 =>
                refine And.intro (ob_move rfl (wt_none rfl) (ev_far rfl rfl) (fun _ _ h => h)) ?_
                refine And.intro (ob_move rfl (wt_none rfl) (ev_far rfl rfl) (fun _ _ h => h)) ?_
                refine And.intro (ob_indexAddr rfl (wt_none rfl) (ev_dep (j := 0) (by kernel_rfl) rfl rfl) (ev_dep (j := 1) (by kernel_rfl) rfl rfl) (fun _ _ _ hx hy => ⟨_, by rw [hx, hy]; exact index3 (k := k) Tryz.underlying22 (by kernel_rfl) hlty _, rfl⟩)) ?_
                refine And.intro (ob_load rfl (wt_none rfl) (ev_dep (j := 2) (by kernel_rfl) rfl rfl) (fun w2 hb => load3 Tryz.underlying28 rfl (by kernel_rfl) ((hb.cell (World.block_lt_of_cell? w6 _ zy0)).trans zy0) ((hb.cell (World.block_lt_of_cell? w6 _ zy1)).trans zy1) ((hb.cell (World.block_lt_of_cell? w6 _ zy2)).trans zy2)) (fun _ _ => rfl)) ?_
                trivial
              case done11 =>
                refine fun w7 hb7 v0 h0 v1 h1 v2 h2 v3 h3 b hbf => ?_
                obtain rfl := h0; obtain rfl := h1; obtain rfl := h2; obtain rfl := h3
                simp only [Act.put, List.setIfInBounds_toArray, List.set_cons_zero, List.set_cons_succ] at hbf
                subst hbf
                replace BR0 := BR0.below hb7
                replace Bs := Bs.below hb7
                replace kss := kss.below hb7
                replace ksd := ksd.below hb7
                replace ksz := ksz.below hb7
                replace ks := ks.below hb7
                replace zys := zys.below hb7
                replace zyd := zyd.below hb7
                replace bb := bb.trans (hb7.mono bb.size)
                have hsz7 := bb.size
                have q3 := zys
                have d3 := zyd
                refine ops_store (i := 4) rfl rfl rfl rfl rfl rfl (cells := [.bool (ngB (x).num), .slice Ay (digs 4294967296 (x).num.natAbs).length cy, .slice Dy (digs 4294967296 (x).den).length ey]) rfl Bs rfl (by kernel_rfl) (one3 rfl rfl rfl) fun w8 hg8 BN8 => ?_
                replace q3 := off q3 Bs no_ints3 hg8
                replace d3 := off d3 Bs no_ints3 hg8
                replace BR0 := BR0.grown hg8 (by omega)
                replace bb := bb.trans ((Below.refl _ _).grown hg8 bb.size (fun g hg => by injection hg with hg; omega))
                have hsz8 := bb.size
                have By : Blk w8 (g8_3) _ _ := BN8
                have kys := q3
                have kyd := d3
                have kyz : IsZ w8 (.agg #[.bool (ngB (x).num), .slice Ay (digs 4294967296 (x).num.natAbs).length cy]) ((x).num) := ⟨_, rfl, kys⟩
                have ky : IsQ w8 (.agg #[.bool (ngB (x).num), .slice Ay (digs 4294967296 (x).num.natAbs).length cy, .slice Dy (digs 4294967296 (x).den).length ey]) (x) := ⟨_, _, rfl, kys, kyd⟩
                refine ops_done ?_
                have hsk : qs.length - (k + 1) < qs.length - k := by omega
                go_wp2
                go_roundw
                case rel => exact ⟨k + 1, by omega, by omega, by rw [← HN.out]; exact ⟨_, _, By, kys, kyd⟩, BR0, bb, By.lt, by go_num⟩
                case measure => simp [intOf]; omega
          · have HB : Hid (decide (0 < t) = false) := decide_eq_false (by rw [ht]; exact fun h => h0 (ordq_pos.1 h))
            have HN : Hid (s = higq q0 (qs.take (k + 1))) := by show _ = _; rw [higq_take HX.out, ← HS.out, maxq_neg h0]
            clear ht h0
            have sB := bb.size
            go_upto_region 7 with (fail)
            refine flow 8 [Pd.eq (.func (.func 34) #[] #[]), Pd.eq (.slice (some ⟨g0_, o0_, none⟩) qs.length c0), Pd.eq (.int .i64 (k : Int)), Pd.eq (.pointer (some ⟨g0_, o0_ + k * 3, none⟩)), Pd.eq (.agg #[.bool (ngB (x).num), .slice Ax (digs 4294967296 (x).num.natAbs).length cx, .slice Dx (digs 4294967296 (x).den).length ex]), Pd.eq (.agg #[.bool (ngB (s).num), .slice As (digs 4294967296 (s).num.natAbs).length cs, .slice Ds (digs 4294967296 (s).den).length es]), Pd.eq (.int .i64 t), Pd.eq (.bool false)] (by kernel_rfl) (by kernel_rfl) ?ob10 ?done10
            case ob10 =>
              refine And.intro (ob_move rfl (wt_none rfl) (ev_far rfl rfl) (fun _ _ h => h)) ?_
              refine And.intro (ob_move rfl (wt_none rfl) (ev_far rfl rfl) (fun _ _ h => h)) ?_
              refine And.intro (ob_move rfl (wt_none rfl) (ev_far rfl rfl) (fun _ _ h => h)) ?_
              refine And.intro (ob_indexAddr rfl (wt_none rfl) (ev_dep (j := 1) (by kernel_rfl) rfl rfl) (ev_dep (j := 2) (by kernel_rfl) rfl rfl) (fun _ _ _ hx hy => ⟨_, by rw [hx, hy]; exact index3 (k := k) Tryz.underlying22 (by kernel_rfl) hltx _, rfl⟩)) ?_
              refine And.intro (ob_load rfl (wt_none rfl) (ev_dep (j := 3) (by kernel_rfl) rfl rfl) (fun w2 hb => load3 Tryz.underlying28 rfl (by kernel_rfl) ((hb.cell (World.block_lt_of_cell? wr _ zx0)).trans zx0) ((hb.cell (World.block_lt_of_cell? wr _ zx1)).trans zx1) ((hb.cell (World.block_lt_of_cell? wr _ zx2)).trans zx2)) (fun _ _ => rfl)) ?_
              refine And.intro (ob_load rfl (wt_none rfl) (ev_far rfl rfl) (fun w2 hb => run_loadAll Tryz.underlying28 rfl (by kernel_rfl) (Bs.drew.below hb)) (fun _ _ => rfl)) ?_
              refine And.intro (ob_callv2 rfl (ev_dep (j := 0) (by kernel_rfl) rfl rfl) Tryz.func34 (by kernel_rfl) (wt_none rfl) (ev_dep (j := 4) (by kernel_rfl) rfl rfl) (ev_dep (j := 5) (by kernel_rfl) rfl rfl) (fun w2 u0 u1 hb h0 h1 => by obtain rfl := h0; obtain rfl := h1; exact (cmp8_any _ _ x s t _ (zx.drew.below hb) (ks.drew.below hb) (lx.mono (by decide)) (ls.mono (by decide)) HT.out).mono fun e w3 h => RetV.pd h)) ?_
              refine And.intro (ob_bin rfl (wt_none rfl) (ev_dep (j := 6) (by kernel_rfl) rfl rfl) (ev_const _) (fun _ _ _ hx hy => ⟨.bool false, by rw [hx, hy, bin_gtr_int, HB.out], rfl⟩)) ?_
              trivial
            case done10 =>
              refine fun w6 hb6 v0 h0 v1 h1 v2 h2 v3 h3 v4 h4 v5 h5 v6 h6 v7 h7 b hbf => ?_
              obtain rfl := h0; obtain rfl := h1; obtain rfl := h2; obtain rfl := h3; obtain rfl := h4; obtain rfl := h5; obtain rfl := h6; obtain rfl := h7
              simp only [Act.put, List.setIfInBounds_toArray, List.set_cons_zero, List.set_cons_succ] at hbf
              subst hbf
              replace BR0 := BR0.below hb6
              replace Bs := Bs.below hb6
              replace kss := kss.below hb6
              replace ksd := ksd.below hb6
              replace ksz := ksz.below hb6
              replace ks := ks.below hb6
              replace bb := bb.trans (hb6.mono bb.size)
              have hsz6 := bb.size
              refine any_done (by kernel_rfl) ?_
              have hsk : qs.length - (k + 1) < qs.length - k := by omega
              go_wp2
              go_roundw
              case rel => exact ⟨k + 1, by omega, by omega, by rw [← HN.out]; exact ⟨_, _, Bs, kss, ksd⟩, BR0, bb, Bs.lt, by go_num⟩
              case measure => simp [intOf]; omega
        · have HN : Hid (s = greatq qs) := by show _ = _; rw [HS.out, List.take_of_length_le (by omega)]; exact higq_own HQ0.out
          have sB := bb.size
          go_upto_region 9 with (fail)
          refine flowp 1 [Pd.eq (.agg #[.bool (ngB (s).num), .slice As (digs 4294967296 (s).num.natAbs).length cs, .slice Ds (digs 4294967296 (s).den).length es])] (by kernel_rfl) ?ob12 ?done12
          case ob12 =>
            refine And.intro (ob_load rfl (wt_none rfl) (ev_far rfl rfl) (fun w2 hb => run_loadAll Tryz.underlying28 rfl (by kernel_rfl) (Bs.below hb)) (fun _ _ => rfl)) ?_
            trivial
          case done12 =>
            refine fun w5 hb5 v0 h0 b hbf => ?_
            obtain rfl := h0
            simp only [Act.put, List.setIfInBounds_toArray, List.set_cons_zero, List.set_cons_succ] at hbf
            subst hbf
            replace BR0 := BR0.below hb5
            replace Bs := Bs.below hb5
            replace kss := kss.below hb5
            replace ksd := ksd.below hb5
            replace ksz := ksz.below hb5
            replace ks := ks.below hb5
            replace bb := bb.trans (hb5.mono bb.size)
            have hsz5 := bb.size
            refine ops_store (i := 1) rfl rfl rfl rfl rfl rfl (cells := [.bool (ngB (s).num), .slice As (digs 4294967296 (s).num.natAbs).length cs, .slice Ds (digs 4294967296 (s).den).length es]) rfl BR0 rfl (by kernel_rfl) (one3 rfl rfl rfl) fun w9 hg9 B9 => ?_
            have k9 := off kss BR0 no_ints3 hg9
            have d9 := off ksd BR0 no_ints3 hg9
            have bb9 := bb.trans ((Below.refl _ _).grown hg9 bb.size (fun g hg => by injection hg with hg; omega))
            obtain ⟨C0, C1, C2, _, _, _⟩ := three B9
            refine ops_done ?_
            go_wp2
            rw [← HN.out]
            exact bodyPost_ret (v := .agg #[.bool (ngB (s).num), .slice As (digs 4294967296 (s).num.natAbs).length cs, .slice Ds (digs 4294967296 (s).den).length es]) (by simp [results, Tryz.results59, go_sem, C0, C1, C2]) rfl ⟨_, rfl, ⟨_, _, rfl, k9, d9⟩, bb9⟩
set_option maxHeartbeats 1600000 in
set_option maxRecDepth 100000 in
theorem fleast_none (a0 : Value) (w : World) (h0 : SlF .u64 4294967296 w a0 []) :
    Calls Tryz.prog 24 #[a0] w (RetQN 9 w) := by
  have sl0 := h0
  obtain ⟨A0, c0, rfl, hc0, hm0⟩ := h0.shape
  unfold maxLen at hm0
  have HLB : Hid ((((([] : List Rat).length : Nat) : Int) == 0) = true) := rfl
  go_enter Tryz.func24, Tryz.ntmps24
  go_upto_region 1 with (fail)
  obtain ⟨wx, hwx, bb, BR0, hsz⟩ := vars1 w 28 #[.bool false, .slice none 0 0, .slice none 0 0]
  rw [hwx]
  clear hwx
  have hsz0 := bb.size
  have sB := bb.size
  refine flowp 3 [Pd.eq (.slice A0 ([] : List Rat).length c0), Pd.eq (.int .i64 ((([] : List Rat).length : Nat) : Int)), Pd.eq (.bool true)] (by kernel_rfl) ?ob13 ?done13
  case ob13 =>
    refine And.intro (ob_move rfl (wt_none rfl) (ev_far rfl rfl) (fun _ _ h => h)) ?_
    refine And.intro (ob_len rfl (wt_none rfl) (ev_dep (j := 0) (by kernel_rfl) rfl rfl) (fun _ _ hx => ⟨_, by rw [hx]; exact len_slice Tryz.underlying22 _ _ _ _, rfl⟩)) ?_
    refine And.intro (ob_bin rfl (wt_none rfl) (ev_dep (j := 1) (by kernel_rfl) rfl rfl) (ev_const _) (fun _ _ _ hx hy => ⟨.bool true, by rw [hx, hy, bin_eql_int, HLB.out], rfl⟩)) ?_
    trivial
  case done13 =>
    refine fun w1 hb1 v0 h0 v1 h1 v2 h2 b hbf => ?_
    obtain rfl := h0; obtain rfl := h1; obtain rfl := h2
    simp only [Act.put, List.setIfInBounds_toArray, List.set_cons_zero, List.set_cons_succ] at hbf
    subst hbf
    replace BR0 := BR0.below hb1
    replace bb := bb.trans (hb1.mono bb.size)
    have hsz1 := bb.size
    refine ops_done ?_
    have sB := bb.size
    go_upto_region 2 with (fail)
    refine flowp 1 [Pd.eq (.agg #[.bool false, .slice none 0 0, .slice none 0 0])] (by kernel_rfl) ?ob14 ?done14
    case ob14 =>
      refine And.intro (ob_build0 (v := .agg #[.bool false, .slice none 0 0, .slice none 0 0]) rfl (wt_none rfl) (fun _ => by kernel_rfl) (fun _ => rfl)) ?_
      trivial
    case done14 =>
      refine fun w2 hb2 v0 h0 b hbf => ?_
      obtain rfl := h0
      simp only [Act.put, List.setIfInBounds_toArray, List.set_cons_zero, List.set_cons_succ] at hbf
      subst hbf
      replace BR0 := BR0.below hb2
      replace bb := bb.trans (hb2.mono bb.size)
      have hsz2 := bb.size
      refine ops_store (i := 1) rfl rfl rfl rfl rfl rfl (cells := [.bool false, .slice none 0 0, .slice none 0 0]) rfl BR0 rfl (by kernel_rfl) (one3 rfl rfl rfl) fun w9 hg9 B9 => ?_
      have bb9 := bb.trans ((Below.refl _ _).grown hg9 bb.size (fun g hg => by injection hg with hg; omega))
      obtain ⟨C0, C1, C2, _, _, _⟩ := three B9
      refine ops_assign (i := 2) (.int .i64 9) rfl rfl rfl rfl rfl fun b hbf => ?_
      simp only [Act.put, List.setIfInBounds_toArray, List.set_cons_zero, List.set_cons_succ] at hbf
      subst hbf
      refine ops_done ?_
      go_wp2
      exact bodyPost_ret (v := .tuple #[.agg #[.bool false, .slice none 0 0, .slice none 0 0], .int .i64 9]) (by simp [results, Tryz.results24, go_sem, C0, C1, C2]) rfl ⟨rfl, bb9⟩
set_option maxHeartbeats 1600000 in
set_option maxRecDepth 100000 in
theorem fleast_ok (a0 : Value) (qs : List Rat) (w : World) (h0 : SlF .u64 4294967296 w a0 qs) (hne : qs ≠ []) (hl : qs.length ≤ 8 ∧ ∀ q ∈ qs, lenQ q 2) :
    Calls Tryz.prog 24 #[a0] w (RetQE (leastq qs) 0 w) := by
  have sl0 := h0
  obtain ⟨A0, c0, rfl, hc0, hm0⟩ := h0.shape
  unfold maxLen at hm0
  have HL := Lib.hid hl
  have hln : 0 < qs.length := List.length_pos_iff.2 hne
  have HLB : Hid ((((qs.length : Nat) : Int) == 0) = false) := by show _ = _; rw [beq_eq_false_iff_ne]; omega
  obtain ⟨q, hq⟩ : ∃ q, q = leastq qs := ⟨_, rfl⟩
  have lq : lenQ q 2 := by rw [hq]; exact hl.2 _ (leastq_mem hne)
  have HQ := Lib.hid hq
  clear hq hln
  go_enter Tryz.func24, Tryz.ntmps24
  go_upto_region 1 with (fail)
  obtain ⟨wx, hwx, bb, BR0, hsz⟩ := vars1 w 28 #[.bool false, .slice none 0 0, .slice none 0 0]
  rw [hwx]
  clear hwx
  have hsz0 := bb.size
  have sB := bb.size
  refine flowp 3 [Pd.eq (.slice A0 qs.length c0), Pd.eq (.int .i64 ((qs.length : Nat) : Int)), Pd.eq (.bool false)] (by kernel_rfl) ?ob15 ?done15
  case ob15 =>
    refine And.intro (ob_move rfl (wt_none rfl) (ev_far rfl rfl) (fun _ _ h => h)) ?_
    refine And.intro (ob_len rfl (wt_none rfl) (ev_dep (j := 0) (by kernel_rfl) rfl rfl) (fun _ _ hx => ⟨_, by rw [hx]; exact len_slice Tryz.underlying22 _ _ _ _, rfl⟩)) ?_
    refine And.intro (ob_bin rfl (wt_none rfl) (ev_dep (j := 1) (by kernel_rfl) rfl rfl) (ev_const _) (fun _ _ _ hx hy => ⟨.bool false, by rw [hx, hy, bin_eql_int, HLB.out], rfl⟩)) ?_
    trivial
  case done15 =>
    refine fun w1 hb1 v0 h0 v1 h1 v2 h2 b hbf => ?_
    obtain rfl := h0; obtain rfl := h1; obtain rfl := h2
    simp only [Act.put, List.setIfInBounds_toArray, List.set_cons_zero, List.set_cons_succ] at hbf
    subst hbf
    replace BR0 := BR0.below hb1
    replace bb := bb.trans (hb1.mono bb.size)
    have hsz1 := bb.size
    refine ops_done ?_
    have k0 := sl0.below bb
    have sB := bb.size
    go_upto_region 3 with (fail)
    refine flowp 3 [Pd.eq (.slice A0 qs.length c0), pqn (q), pq (q) w1.heap.size] (by kernel_rfl) ?ob16 ?done16
    case ob16 =>
      refine And.intro (ob_move rfl (wt_none rfl) (ev_far rfl rfl) (fun _ _ h => h)) ?_
      refine And.intro (ob_call2 rfl Tryz.func58 (by kernel_rfl) (wt_none rfl) (ev_dep (j := 0) (by kernel_rfl) rfl rfl) (ev_func _) (fun w2 u0 u1 hb h0 h1 => by obtain rfl := h0; obtain rfl := h1; exact (HQ.out ▸ minf_any _ qs _ (k0.below hb) hne HL.out.2).mono fun e w3 h => RetQn.pd h)) ?_
      refine And.intro (ob_call1 rfl Tryz.func57 (by kernel_rfl) (wt_none rfl) (ev_dep (j := 1) (by kernel_rfl) rfl rfl) (fun w2 u0 hb h0 => by exact (own8_any _ q _ h0 (lq.mono (by decide))).mono fun e w3 h => RetQ.pd h hb.size)) ?_
      trivial
    case done16 =>
      refine fun w2 hb2 v0 h0 v1 h1 v2 h2 b hbf => ?_
      obtain rfl := h0
      have q1 := h1
      obtain ⟨q2, f2⟩ := h2
      simp only [Act.put, List.setIfInBounds_toArray, List.set_cons_zero, List.set_cons_succ] at hbf
      subst hbf
      replace BR0 := BR0.below hb2
      replace bb := bb.trans (hb2.mono bb.size)
      have hsz2 := bb.size
      have s_2 := sB
      obtain ⟨u2, t2, rfl, q2, d2⟩ := q2
      obtain ⟨A9, c9, rfl, _⟩ := id q2
      obtain ⟨D9, e9, rfl, _⟩ := id d2
      refine ops_store (i := 3) rfl rfl rfl rfl rfl rfl (cells := [.bool (ngB ((q)).num), .slice A9 (digs 4294967296 ((q)).num.natAbs).length c9, .slice D9 (digs 4294967296 ((q)).den).length e9]) rfl BR0 rfl (by kernel_rfl) (one3 rfl rfl rfl) fun w9 hg9 B9 => ?_
      have k9 := off q2 BR0 no_ints3 hg9
      have d9 := off d2 BR0 no_ints3 hg9
      have bb9 := bb.trans ((Below.refl _ _).grown hg9 bb.size (fun g hg => by injection hg with hg; omega))
      obtain ⟨C0, C1, C2, _, _, _⟩ := three B9
      refine ops_assign (i := 4) (.int .i64 0) rfl rfl rfl rfl rfl fun b hbf => ?_
      simp only [Act.put, List.setIfInBounds_toArray, List.set_cons_zero, List.set_cons_succ] at hbf
      subst hbf
      refine ops_done ?_
      go_wp2
      rw [← HQ.out]
      exact bodyPost_ret (v := .tuple #[.agg #[.bool (ngB ((q)).num), .slice A9 (digs 4294967296 ((q)).num.natAbs).length c9, .slice D9 (digs 4294967296 ((q)).den).length e9], .int .i64 0]) (by simp [results, Tryz.results24, go_sem, C0, C1, C2]) rfl ⟨_, rfl, ⟨_, _, rfl, k9, d9⟩, bb9⟩
set_option maxHeartbeats 1600000 in
set_option maxRecDepth 100000 in
theorem fgreat_none (a0 : Value) (w : World) (h0 : SlF .u64 4294967296 w a0 []) :
    Calls Tryz.prog 25 #[a0] w (RetQN 9 w) := by
  have sl0 := h0
  obtain ⟨A0, c0, rfl, hc0, hm0⟩ := h0.shape
  unfold maxLen at hm0
  have HLB : Hid ((((([] : List Rat).length : Nat) : Int) == 0) = true) := rfl
  go_enter Tryz.func25, Tryz.ntmps25
  go_upto_region 1 with (fail)
  obtain ⟨wx, hwx, bb, BR0, hsz⟩ := vars1 w 28 #[.bool false, .slice none 0 0, .slice none 0 0]
  rw [hwx]
  clear hwx
  have hsz0 := bb.size
  have sB := bb.size
  refine flowp 3 [Pd.eq (.slice A0 ([] : List Rat).length c0), Pd.eq (.int .i64 ((([] : List Rat).length : Nat) : Int)), Pd.eq (.bool true)] (by kernel_rfl) ?ob17 ?done17
  case ob17 =>
    refine And.intro (ob_move rfl (wt_none rfl) (ev_far rfl rfl) (fun _ _ h => h)) ?_
    refine And.intro (ob_len rfl (wt_none rfl) (ev_dep (j := 0) (by kernel_rfl) rfl rfl) (fun _ _ hx => ⟨_, by rw [hx]; exact len_slice Tryz.underlying22 _ _ _ _, rfl⟩)) ?_
    refine And.intro (ob_bin rfl (wt_none rfl) (ev_dep (j := 1) (by kernel_rfl) rfl rfl) (ev_const _) (fun _ _ _ hx hy => ⟨.bool true, by rw [hx, hy, bin_eql_int, HLB.out], rfl⟩)) ?_
    trivial
  case done17 =>
    refine fun w1 hb1 v0 h0 v1 h1 v2 h2 b hbf => ?_
    obtain rfl := h0; obtain rfl := h1; obtain rfl := h2
    simp only [Act.put, List.setIfInBounds_toArray, List.set_cons_zero, List.set_cons_succ] at hbf
    subst hbf
    replace BR0 := BR0.below hb1
    replace bb := bb.trans (hb1.mono bb.size)
    have hsz1 := bb.size
    refine ops_done ?_
    have sB := bb.size
    go_upto_region 2 with (fail)
    refine flowp 1 [Pd.eq (.agg #[.bool false, .slice none 0 0, .slice none 0 0])] (by kernel_rfl) ?ob18 ?done18
    case ob18 =>
      refine And.intro (ob_build0 (v := .agg #[.bool false, .slice none 0 0, .slice none 0 0]) rfl (wt_none rfl) (fun _ => by kernel_rfl) (fun _ => rfl)) ?_
      trivial
    case done18 =>
      refine fun w2 hb2 v0 h0 b hbf => ?_
      obtain rfl := h0
      simp only [Act.put, List.setIfInBounds_toArray, List.set_cons_zero, List.set_cons_succ] at hbf
      subst hbf
      replace BR0 := BR0.below hb2
      replace bb := bb.trans (hb2.mono bb.size)
      have hsz2 := bb.size
      refine ops_store (i := 1) rfl rfl rfl rfl rfl rfl (cells := [.bool false, .slice none 0 0, .slice none 0 0]) rfl BR0 rfl (by kernel_rfl) (one3 rfl rfl rfl) fun w9 hg9 B9 => ?_
      have bb9 := bb.trans ((Below.refl _ _).grown hg9 bb.size (fun g hg => by injection hg with hg; omega))
      obtain ⟨C0, C1, C2, _, _, _⟩ := three B9
      refine ops_assign (i := 2) (.int .i64 9) rfl rfl rfl rfl rfl fun b hbf => ?_
      simp only [Act.put, List.setIfInBounds_toArray, List.set_cons_zero, List.set_cons_succ] at hbf
      subst hbf
      refine ops_done ?_
      go_wp2
      exact bodyPost_ret (v := .tuple #[.agg #[.bool false, .slice none 0 0, .slice none 0 0], .int .i64 9]) (by simp [results, Tryz.results25, go_sem, C0, C1, C2]) rfl ⟨rfl, bb9⟩
set_option maxHeartbeats 1600000 in
set_option maxRecDepth 100000 in
theorem fgreat_ok (a0 : Value) (qs : List Rat) (w : World) (h0 : SlF .u64 4294967296 w a0 qs) (hne : qs ≠ []) (hl : qs.length ≤ 8 ∧ ∀ q ∈ qs, lenQ q 2) :
    Calls Tryz.prog 25 #[a0] w (RetQE (greatq qs) 0 w) := by
  have sl0 := h0
  obtain ⟨A0, c0, rfl, hc0, hm0⟩ := h0.shape
  unfold maxLen at hm0
  have HL := Lib.hid hl
  have hln : 0 < qs.length := List.length_pos_iff.2 hne
  have HLB : Hid ((((qs.length : Nat) : Int) == 0) = false) := by show _ = _; rw [beq_eq_false_iff_ne]; omega
  obtain ⟨q, hq⟩ : ∃ q, q = greatq qs := ⟨_, rfl⟩
  have lq : lenQ q 2 := by rw [hq]; exact hl.2 _ (greatq_mem hne)
  have HQ := Lib.hid hq
  clear hq hln
  go_enter Tryz.func25, Tryz.ntmps25
  go_upto_region 1 with (fail)
  obtain ⟨wx, hwx, bb, BR0, hsz⟩ := vars1 w 28 #[.bool false, .slice none 0 0, .slice none 0 0]
  rw [hwx]
  clear hwx
  have hsz0 := bb.size
  have sB := bb.size
  refine flowp 3 [Pd.eq (.slice A0 qs.length c0), Pd.eq (.int .i64 ((qs.length : Nat) : Int)), Pd.eq (.bool false)] (by kernel_rfl) ?ob19 ?done19
  case ob19 =>
    refine And.intro (ob_move rfl (wt_none rfl) (ev_far rfl rfl) (fun _ _ h => h)) ?_
    refine And.intro (ob_len rfl (wt_none rfl) (ev_dep (j := 0) (by kernel_rfl) rfl rfl) (fun _ _ hx => ⟨_, by rw [hx]; exact len_slice Tryz.underlying22 _ _ _ _, rfl⟩)) ?_
    refine And.intro (ob_bin rfl (wt_none rfl) (ev_dep (j := 1) (by kernel_rfl) rfl rfl) (ev_const _) (fun _ _ _ hx hy => ⟨.bool false, by rw [hx, hy, bin_eql_int, HLB.out], rfl⟩)) ?_
    trivial
  case done19 =>
    refine fun w1 hb1 v0 h0 v1 h1 v2 h2 b hbf => ?_
    obtain rfl := h0; obtain rfl := h1; obtain rfl := h2
    simp only [Act.put, List.setIfInBounds_toArray, List.set_cons_zero, List.set_cons_succ] at hbf
    subst hbf
    replace BR0 := BR0.below hb1
    replace bb := bb.trans (hb1.mono bb.size)
    have hsz1 := bb.size
    refine ops_done ?_
    have k0 := sl0.below bb
    have sB := bb.size
    go_upto_region 3 with (fail)
    refine flowp 3 [Pd.eq (.slice A0 qs.length c0), pqn (q), pq (q) w1.heap.size] (by kernel_rfl) ?ob20 ?done20
    case ob20 =>
      refine And.intro (ob_move rfl (wt_none rfl) (ev_far rfl rfl) (fun _ _ h => h)) ?_
      refine And.intro (ob_call2 rfl Tryz.func59 (by kernel_rfl) (wt_none rfl) (ev_dep (j := 0) (by kernel_rfl) rfl rfl) (ev_func _) (fun w2 u0 u1 hb h0 h1 => by obtain rfl := h0; obtain rfl := h1; exact (HQ.out ▸ maxf_any _ qs _ (k0.below hb) hne HL.out.2).mono fun e w3 h => RetQn.pd h)) ?_
      refine And.intro (ob_call1 rfl Tryz.func57 (by kernel_rfl) (wt_none rfl) (ev_dep (j := 1) (by kernel_rfl) rfl rfl) (fun w2 u0 hb h0 => by exact (own8_any _ q _ h0 (lq.mono (by decide))).mono fun e w3 h => RetQ.pd h hb.size)) ?_
      trivial
    case done20 =>
      refine fun w2 hb2 v0 h0 v1 h1 v2 h2 b hbf => ?_
      obtain rfl := h0
      have q1 := h1
      obtain ⟨q2, f2⟩ := h2
      simp only [Act.put, List.setIfInBounds_toArray, List.set_cons_zero, List.set_cons_succ] at hbf
      subst hbf
      replace BR0 := BR0.below hb2
      replace bb := bb.trans (hb2.mono bb.size)
      have hsz2 := bb.size
      have s_2 := sB
      obtain ⟨u2, t2, rfl, q2, d2⟩ := q2
      obtain ⟨A9, c9, rfl, _⟩ := id q2
      obtain ⟨D9, e9, rfl, _⟩ := id d2
      refine ops_store (i := 3) rfl rfl rfl rfl rfl rfl (cells := [.bool (ngB ((q)).num), .slice A9 (digs 4294967296 ((q)).num.natAbs).length c9, .slice D9 (digs 4294967296 ((q)).den).length e9]) rfl BR0 rfl (by kernel_rfl) (one3 rfl rfl rfl) fun w9 hg9 B9 => ?_
      have k9 := off q2 BR0 no_ints3 hg9
      have d9 := off d2 BR0 no_ints3 hg9
      have bb9 := bb.trans ((Below.refl _ _).grown hg9 bb.size (fun g hg => by injection hg with hg; omega))
      obtain ⟨C0, C1, C2, _, _, _⟩ := three B9
      refine ops_assign (i := 4) (.int .i64 0) rfl rfl rfl rfl rfl fun b hbf => ?_
      simp only [Act.put, List.setIfInBounds_toArray, List.set_cons_zero, List.set_cons_succ] at hbf
      subst hbf
      refine ops_done ?_
      go_wp2
      rw [← HQ.out]
      exact bodyPost_ret (v := .tuple #[.agg #[.bool (ngB ((q)).num), .slice A9 (digs 4294967296 ((q)).num.natAbs).length c9, .slice D9 (digs 4294967296 ((q)).den).length e9], .int .i64 0]) (by simp [results, Tryz.results25, go_sem, C0, C1, C2]) rfl ⟨_, rfl, ⟨_, _, rfl, k9, d9⟩, bb9⟩
end Go.Proofs.YtlnmoledijlemaaGreat.rat
