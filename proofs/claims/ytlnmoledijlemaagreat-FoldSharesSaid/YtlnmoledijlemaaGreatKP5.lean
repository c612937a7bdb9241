/- Package rat: its own contracts, each said of fractions: Add, Sub, Cmp. Condition: as each says.
Package rat: its own contracts, each said of fractions: Make, Of, Frac. Condition: as each says.
Package rat: its own contracts, each said of fractions: Same, One, May. Condition: as each says.
A region that draws its order, a chain of whose operations may come behind the first store and reads what was there: the stores write new variables alone, so it yields the same then. No program stands here.
Rows of fractions that the call makes at their full length: one block, written element by element; calls through a function's value. Condition: as each says.
Package fold: own, Sum, Product, Not, Whole. Condition: as each says.
Package fold: raised, power, Pow. Condition: as each says.
Sorting by insertion: what its loops keep; powers of a fraction's parts; lists written from the front. Mathematics alone.
Package fold: power, Pow. Condition: as each says.
The library's stable sort of at most eight fractions by Cmp. Condition: as each says.
Package fold: Shares. Condition: as each says.
A copy of ints that a region makes: an empty row, and an append to it. -/
import Derived.Test.YtlnmoledijlemaaGreatKP4
import Derived.OrdersHeld
namespace Go.Proofs.YtlnmoledijlemaaGreat.rat
open Go.RowKit Go.Proofs.YtlnmoledijlemaaGreat.num Go.Proofs.YtlnmoledijlemaaGreat.mem Go.Proofs.YtlnmoledijlemaaGreat.nat Go.Proofs.YtlnmoledijlemaaGreat.txt Go.Proofs.YtlnmoledijlemaaGreat.str Go.Proofs.YtlnmoledijlemaaGreat.flow Go.Proofs.YtlnmoledijlemaaGreat.whl
set_option linter.unusedVariables false
set_option maxHeartbeats 3200000 in
set_option maxRecDepth 100000 in
theorem add8_any (a0 : Value) (x : Rat) (a1 : Value) (y : Rat) (w : World) (h0 : IsQ w a0 x) (h1 : IsQ w a1 y) (hl : lenQ x 1000) (hl2 : lenQ y 1000) :
    Calls Tryz.prog 46 #[a0, a1] w (RetQ (x + y) w) := by
  obtain ⟨u0, t0, rfl, s0, r0⟩ := h0
  obtain ⟨A0, c0, rfl, _⟩ := id s0
  obtain ⟨D0, e0, rfl, _⟩ := id r0
  obtain ⟨u1, t1, rfl, s1, r1⟩ := h1
  obtain ⟨A1, c1, rfl, _⟩ := id s1
  obtain ⟨D1, e1, rfl, _⟩ := id r1
  obtain ⟨G, hG⟩ : ∃ G, G = Nat.gcd x.den y.den := ⟨_, rfl⟩
  obtain ⟨m1, ha⟩ : ∃ m1, m1 = x.den / G := ⟨_, rfl⟩
  obtain ⟨m2, hb_⟩ : ∃ m2, m2 = y.den / G := ⟨_, rfl⟩
  have hGp : 0 < G := by rw [hG]; exact Nat.gcd_pos_of_pos_left _ x.den_pos
  have hGd : G ≤ x.den := by rw [hG]; exact Nat.gcd_le_left _ x.den_pos
  obtain ⟨S, hS⟩ : ∃ S, S = (x.num * ((m2 : Nat) : Int) + y.num * ((m1 : Nat) : Int)) := ⟨_, rfl⟩
  obtain ⟨U, hU⟩ : ∃ U, U = (mkRat S G).num := ⟨_, rfl⟩
  obtain ⟨L, hL⟩ : ∃ L, L = (mkRat S G).den := ⟨_, rfl⟩
  obtain ⟨Q, hQ⟩ : ∃ Q, Q = x + y := ⟨_, rfl⟩
  have HQ0 : Hid (x + y = Q) := hQ.symm
  have HP := add_parts x y hG ha hb_
  rw [← hS, ← hU, ← hL, ← hQ] at HP
  have HQN := Lib.hid HP.1
  have HQD := Lib.hid HP.2
  have lx1 := hl.1
  have lx2 := hl.2
  have ly1 := hl2.1
  have ly2 := hl2.2
  have la : (digs 4294967296 m1).length ≤ 1000 := Nat.le_trans (digs_len_mono (by omega) (by rw [ha]; exact Nat.div_le_self _ _)) lx2
  have lb : (digs 4294967296 m2).length ≤ 1000 := Nat.le_trans (digs_len_mono (by omega) (by rw [hb_]; exact Nat.div_le_self _ _)) ly2
  have lG : (digs 4294967296 G).length ≤ 1000 := Nat.le_trans (digs_len_mono (by omega) hGd) lx2
  have lza : lenZ ((m1 : Nat) : Int) ≤ 1000 := by rw [lenD]; exact la
  have lzb : lenZ ((m2 : Nat) : Int) ≤ 1000 := by rw [lenD]; exact lb
  have lp : lenZ (x.num * ((m2 : Nat) : Int)) ≤ 2000 := lenZ_mul_le lx1 lzb
  have lq : lenZ (y.num * ((m1 : Nat) : Int)) ≤ 2000 := lenZ_mul_le ly1 lza
  have lS : lenZ S ≤ 4001 := by rw [hS]; exact lenZ_add_le lp lq
  have HL1 : Hid ((digs 4294967296 x.den).length ≤ 90000) := Nat.le_trans lx2 (by decide)
  have HL2 : Hid ((digs 4294967296 y.den).length ≤ 90000) := Nat.le_trans ly2 (by decide)
  have lL : (digs 4294967296 L).length ≤ 1000 := Nat.le_trans (digs_len_mono (by omega) (by rw [hL, mk_den S (by omega)]; exact Nat.div_le_self _ _)) lG
  have lab : (digs 4294967296 (m1 * m2)).length ≤ 2000 := by have := mul_len m1 m2; omega
  have HG : Hid (gcds [x.den, y.den] = G) := by show _ = _; rw [hG]; simp [gcds]
  have HM1 : Hid (x.den % G = 0) := by show _ = _; rw [hG]; exact Nat.mod_eq_zero_of_dvd (Nat.gcd_dvd_left _ _)
  have HM2 : Hid (y.den % G = 0) := by show _ = _; rw [hG]; exact Nat.mod_eq_zero_of_dvd (Nat.gcd_dvd_right _ _)
  have HA := Lib.hid ha
  have HB := Lib.hid hb_
  have HS : Hid ((x.num * ((m2 : Nat) : Int) + y.num * ((m1 : Nat) : Int)) = S) := hS.symm
  have HU := Lib.hid hU
  have HL := Lib.hid hL
  have HGn : Hid (G ≠ 0) := by show _ ≠ _; omega
  clear hG ha hb_ hS hU hL hQ HP
  go_enter Tryz.func46, Tryz.ntmps46
  go_upto_region 1 with (fail)
  obtain ⟨wx, hwx, bb, B0, B1, BR0, hsz⟩ := vars3 w 28 28 28 #[.bool (ngB (x).num), .slice A0 (digs 4294967296 (x).num.natAbs).length c0, .slice D0 (digs 4294967296 (x).den).length e0] #[.bool (ngB (y).num), .slice A1 (digs 4294967296 (y).num.natAbs).length c1, .slice D1 (digs 4294967296 (y).den).length e1] #[.bool false, .slice none 0 0, .slice none 0 0]
  rw [hwx]
  clear hwx
  have k0s := s0.below bb
  have k0d := r0.below bb
  have k0z : IsZ wx (.agg #[.bool (ngB (x).num), .slice A0 (digs 4294967296 (x).num.natAbs).length c0]) (x).num := ⟨_, rfl, k0s⟩
  have k0 : IsQ wx (.agg #[.bool (ngB (x).num), .slice A0 (digs 4294967296 (x).num.natAbs).length c0, .slice D0 (digs 4294967296 (x).den).length e0]) (x) := ⟨_, _, rfl, k0s, k0d⟩
  have k1s := s1.below bb
  have k1d := r1.below bb
  have k1z : IsZ wx (.agg #[.bool (ngB (y).num), .slice A1 (digs 4294967296 (y).num.natAbs).length c1]) (y).num := ⟨_, rfl, k1s⟩
  have k1 : IsQ wx (.agg #[.bool (ngB (y).num), .slice A1 (digs 4294967296 (y).num.natAbs).length c1, .slice D1 (digs 4294967296 (y).den).length e1]) (y) := ⟨_, _, rfl, k1s, k1d⟩
  have hsz0 := bb.size
  obtain ⟨x00, x01, x02, _, _, _⟩ := three B0
  obtain ⟨x10, x11, x12, _, _, _⟩ := three B1
  go_wp2_with fail
  have hbA := below_alloc (Nat.le_refl wx.heap.size) (.cells #[.slice D0 (digs 4294967296 (x).den).length e0, .slice D1 (digs 4294967296 (y).den).length e1] 24)
  refine (ggcd_any _ [_, _] [x.den, y.den] _ (isV_lit wx 24 [_, _]) (nums2 (k0d.below hbA) (k1d.below hbA)) (by simp) (by intro q hq; simp at hq; rcases hq with rfl | rfl; exact HL1.out; exact HL2.out)).mono ?_
  rintro e w1 ⟨v1, rfl, kg, kgf, b1⟩
  have hb1 := hbA.trans (b1.mono hbA.size)
  rw [HG.out] at kg
  clear x00 x01 x02 x10 x11 x12
  replace B0 := B0.below hb1
  replace k0s := k0s.below hb1
  replace k0d := k0d.below hb1
  replace k0z := k0z.below hb1
  replace k0 := k0.below hb1
  replace B1 := B1.below hb1
  replace k1s := k1s.below hb1
  replace k1d := k1d.below hb1
  replace k1z := k1z.below hb1
  replace k1 := k1.below hb1
  replace BR0 := BR0.below hb1
  replace bb := bb.trans (hb1.mono bb.size)
  have hsz1 := bb.size
  obtain ⟨Akg, ckg, rfl, _⟩ := id kg
  have sB := bb.size
  go_upto_region 2 with (fail)
  refine flowp 9 [Pd.eq (.pointer (some ⟨w.heap.size, 2, none⟩)), Pd.eq (.slice D0 (digs 4294967296 (x).den).length e0), Pd.eq (.slice Akg (digs 4294967296 G).length ckg), pt .u64 (digs 4294967296 m1) 0 w1.heap.size, pt .u64 (digs 4294967296 m1) 0 w1.heap.size, ps .u64 (digs 4294967296 m1) w1.heap.size, Pd.eq (.int .i64 0), ps .u64 (digs 4294967296 m1) w1.heap.size, Pd.eq (.int .i64 0)] (by kernel_rfl) ?ob37 ?done37
  case ob37 =>
    refine And.intro (ob_fieldAddr rfl (wt_none rfl) (ev_far rfl rfl) (fun _ => by kernel_rfl) (fun _ => rfl)) ?_
    refine And.intro (ob_load rfl (wt_none rfl) (ev_dep (j := 0) (by kernel_rfl) rfl rfl) (fun w2 hb => run_load1 Tryz.underlying24 rfl ((B0.below hb).cell 2)) (fun _ _ => rfl)) ?_
    refine And.intro (ob_move rfl (wt_none rfl) (ev_far rfl rfl) (fun _ _ h => h)) ?_
    refine And.intro (ob_call2 rfl Tryz.func79 (by kernel_rfl) (wt_none rfl) (ev_dep (j := 1) (by kernel_rfl) rfl rfl) (ev_dep (j := 2) (by kernel_rfl) rfl rfl) (fun w2 u0 u1 hb h0 h1 => by obtain rfl := h0; obtain rfl := h1; exact (dexact_ok _ _ x.den G _ (k0d.below hb) (kg.below hb) HL1.out (Nat.le_trans lG (by decide)) hGp m1 HM1.out HA.out).mono fun e w3 h => RetSI.pd h hb.size)) ?_
    refine And.intro (ob_move rfl (wt_none rfl) (ev_dep (j := 3) (by kernel_rfl) rfl rfl) (fun _ _ h => h)) ?_
    refine And.intro (ob_extract rfl (wt_none rfl) (ev_dep (j := 4) (by kernel_rfl) rfl rfl) (fun w2 u hu => by obtain ⟨v, rfl, q1, q2⟩ := hu; exact ⟨v, rfl, q1, q2⟩)) ?_
    refine And.intro (ob_extract rfl (wt_none rfl) (ev_dep (j := 4) (by kernel_rfl) rfl rfl) (fun w2 u hu => by obtain ⟨v, rfl, q1, q2⟩ := hu; exact ⟨_, rfl, rfl⟩)) ?_
    refine And.intro (ob_assign rfl (wt_none rfl) (ev_dep (j := 5) (by kernel_rfl) rfl rfl) (fun _ _ h => h)) ?_
    refine And.intro (ob_assign rfl (wt_none rfl) (ev_dep (j := 6) (by kernel_rfl) rfl rfl) (fun _ _ h => h)) ?_
    trivial
  case done37 =>
    refine fun w2 hb2 v0 h0 v1 h1 v2 h2 v3 h3 v4 h4 v5 h5 v6 h6 v7 h7 v8 h8 b hbf => ?_
    obtain rfl := h0; obtain rfl := h1; obtain rfl := h2; obtain rfl := h6; obtain rfl := h8
    clear h3
    clear h4
    obtain ⟨q5, f5⟩ := h5
    obtain ⟨q7, f7⟩ := h7
    simp only [Act.put, List.setIfInBounds_toArray, List.set_cons_zero, List.set_cons_succ] at hbf
    subst hbf
    replace B0 := B0.below hb2
    replace k0s := k0s.below hb2
    replace k0d := k0d.below hb2
    replace k0z := k0z.below hb2
    replace k0 := k0.below hb2
    replace B1 := B1.below hb2
    replace k1s := k1s.below hb2
    replace k1d := k1d.below hb2
    replace k1z := k1z.below hb2
    replace k1 := k1.below hb2
    replace BR0 := BR0.below hb2
    replace kg := kg.below hb2
    replace bb := bb.trans (hb2.mono bb.size)
    have hsz2 := bb.size
    have s_5 := sB
    have s_7 := sB
    refine ops_done ?_
    obtain ⟨A6, c6, rfl, _⟩ := id q7
    have n6 := q7
    have n6f := f7
    have n6z_ := s_7
    have sB := bb.size
    go_upto_region 3 with (fail)
    refine flowp 9 [Pd.eq (.pointer (some ⟨w.heap.size + 1, 2, none⟩)), Pd.eq (.slice D1 (digs 4294967296 (y).den).length e1), Pd.eq (.slice Akg (digs 4294967296 G).length ckg), pt .u64 (digs 4294967296 m2) 0 w2.heap.size, pt .u64 (digs 4294967296 m2) 0 w2.heap.size, ps .u64 (digs 4294967296 m2) w2.heap.size, Pd.eq (.int .i64 0), ps .u64 (digs 4294967296 m2) w2.heap.size, Pd.eq (.int .i64 0)] (by kernel_rfl) ?ob38 ?done38
    case ob38 =>
      refine And.intro (ob_fieldAddr rfl (wt_none rfl) (ev_far rfl rfl) (fun _ => by kernel_rfl) (fun _ => rfl)) ?_
      refine And.intro (ob_load rfl (wt_none rfl) (ev_dep (j := 0) (by kernel_rfl) rfl rfl) (fun w2 hb => run_load1 Tryz.underlying24 rfl ((B1.below hb).cell 2)) (fun _ _ => rfl)) ?_
      refine And.intro (ob_move rfl (wt_none rfl) (ev_far rfl rfl) (fun _ _ h => h)) ?_
      refine And.intro (ob_call2 rfl Tryz.func79 (by kernel_rfl) (wt_none rfl) (ev_dep (j := 1) (by kernel_rfl) rfl rfl) (ev_dep (j := 2) (by kernel_rfl) rfl rfl) (fun w2 u0 u1 hb h0 h1 => by obtain rfl := h0; obtain rfl := h1; exact (dexact_ok _ _ y.den G _ (k1d.below hb) (kg.below hb) HL2.out (Nat.le_trans lG (by decide)) hGp m2 HM2.out HB.out).mono fun e w3 h => RetSI.pd h hb.size)) ?_
      refine And.intro (ob_move rfl (wt_none rfl) (ev_dep (j := 3) (by kernel_rfl) rfl rfl) (fun _ _ h => h)) ?_
      refine And.intro (ob_extract rfl (wt_none rfl) (ev_dep (j := 4) (by kernel_rfl) rfl rfl) (fun w2 u hu => by obtain ⟨v, rfl, q1, q2⟩ := hu; exact ⟨v, rfl, q1, q2⟩)) ?_
      refine And.intro (ob_extract rfl (wt_none rfl) (ev_dep (j := 4) (by kernel_rfl) rfl rfl) (fun w2 u hu => by obtain ⟨v, rfl, q1, q2⟩ := hu; exact ⟨_, rfl, rfl⟩)) ?_
      refine And.intro (ob_assign rfl (wt_none rfl) (ev_dep (j := 5) (by kernel_rfl) rfl rfl) (fun _ _ h => h)) ?_
      refine And.intro (ob_assign rfl (wt_none rfl) (ev_dep (j := 6) (by kernel_rfl) rfl rfl) (fun _ _ h => h)) ?_
      trivial
    case done38 =>
      refine fun w3 hb3 v0 h0 v1 h1 v2 h2 v3 h3 v4 h4 v5 h5 v6 h6 v7 h7 v8 h8 b hbf => ?_
      obtain rfl := h0; obtain rfl := h1; obtain rfl := h2; obtain rfl := h6; obtain rfl := h8
      clear h3
      clear h4
      obtain ⟨q5, f5⟩ := h5
      obtain ⟨q7, f7⟩ := h7
      simp only [Act.put, List.setIfInBounds_toArray, List.set_cons_zero, List.set_cons_succ] at hbf
      subst hbf
      replace B0 := B0.below hb3
      replace k0s := k0s.below hb3
      replace k0d := k0d.below hb3
      replace k0z := k0z.below hb3
      replace k0 := k0.below hb3
      replace B1 := B1.below hb3
      replace k1s := k1s.below hb3
      replace k1d := k1d.below hb3
      replace k1z := k1z.below hb3
      replace k1 := k1.below hb3
      replace BR0 := BR0.below hb3
      replace kg := kg.below hb3
      replace n6 := n6.below hb3
      replace bb := bb.trans (hb3.mono bb.size)
      have hsz3 := bb.size
      have s_5 := sB
      have s_7 := sB
      refine ops_done ?_
      obtain ⟨A8, c8, rfl, _⟩ := id q7
      have n8 := q7
      have n8f := f7
      have n8z_ := s_7
      have sB := bb.size
      go_upto_region 4 with (fail)
      have lt3_2 := Blk.lt B0
      have lt3_3 := Blk.lt B1
      have lt3_4 := Blk.lt BR0
      refine flow 12 [Pd.eq (.pointer (some ⟨w.heap.size, 0, none⟩)), Pd.eq (.agg #[.bool (ngB (x).num), .slice A0 (digs 4294967296 (x).num.natAbs).length c0]), Pd.eq (.slice A8 (digs 4294967296 m2).length c8), pi (((m2 : Nat) : Int)), pi ((x.num * ((m2 : Nat) : Int))), Pd.eq (.pointer (some ⟨w.heap.size + 1, 0, none⟩)), Pd.eq (.agg #[.bool (ngB (y).num), .slice A1 (digs 4294967296 (y).num.natAbs).length c1]), Pd.eq (.slice A6 (digs 4294967296 m1).length c6), pi (((m1 : Nat) : Int)), pi ((y.num * ((m1 : Nat) : Int))), pz (S) w3.heap.size, pn 26 #[.bool false, .slice none 0 0] w3.heap.size] (by kernel_rfl) (by kernel_rfl) ?ob39 ?done39
      case ob39 =>
        refine And.intro (ob_fieldAddr rfl (wt_none rfl) (ev_far rfl rfl) (fun _ => by kernel_rfl) (fun _ => rfl)) ?_
        refine And.intro (ob_load rfl (wt_none rfl) (ev_dep (j := 0) (by kernel_rfl) rfl rfl) (fun w2 hb => run_loadPart Tryz.underlying26 rfl (by kernel_rfl) (B0.drew.below hb) rfl) (fun _ _ => rfl)) ?_
        refine And.intro (ob_move rfl (wt_none rfl) (ev_far rfl rfl) (fun _ _ h => h)) ?_
        refine And.intro (ob_call1 rfl Tryz.func70 (by kernel_rfl) (wt_none rfl) (ev_dep (j := 2) (by kernel_rfl) rfl rfl) (fun w2 u0 hb h0 => by obtain rfl := h0; exact unsigned_pd _ (m2) _ (n8.drew.below hb))) ?_
        refine And.intro (ob_call2 rfl Tryz.func69 (by kernel_rfl) (wt_none rfl) (ev_dep (j := 1) (by kernel_rfl) rfl rfl) (ev_dep (j := 3) (by kernel_rfl) rfl rfl) (fun w2 u0 u1 hb h0 h1 => by obtain rfl := h0; exact (zmul_any _ _ _ _ (x.num * ((m2 : Nat) : Int)) _ (k0z.drew.below hb) h1 (Nat.le_trans lx1 (by decide)) (Nat.le_trans lzb (by decide)) rfl).mono fun e w3 h => RetZ.pi h)) ?_
        refine And.intro (ob_fieldAddr rfl (wt_none rfl) (ev_far rfl rfl) (fun _ => by kernel_rfl) (fun _ => rfl)) ?_
        refine And.intro (ob_load rfl (wt_none rfl) (ev_dep (j := 5) (by kernel_rfl) rfl rfl) (fun w2 hb => run_loadPart Tryz.underlying26 rfl (by kernel_rfl) (B1.drew.below hb) rfl) (fun _ _ => rfl)) ?_
        refine And.intro (ob_move rfl (wt_none rfl) (ev_far rfl rfl) (fun _ _ h => h)) ?_
        refine And.intro (ob_call1 rfl Tryz.func70 (by kernel_rfl) (wt_none rfl) (ev_dep (j := 7) (by kernel_rfl) rfl rfl) (fun w2 u0 hb h0 => by obtain rfl := h0; exact unsigned_pd _ (m1) _ (n6.drew.below hb))) ?_
        refine And.intro (ob_call2 rfl Tryz.func69 (by kernel_rfl) (wt_none rfl) (ev_dep (j := 6) (by kernel_rfl) rfl rfl) (ev_dep (j := 8) (by kernel_rfl) rfl rfl) (fun w2 u0 u1 hb h0 h1 => by obtain rfl := h0; exact (zmul_any _ _ _ _ (y.num * ((m1 : Nat) : Int)) _ (k1z.drew.below hb) h1 (Nat.le_trans ly1 (by decide)) (Nat.le_trans lza (by decide)) rfl).mono fun e w3 h => RetZ.pi h)) ?_
        refine And.intro (ob_call2 rfl Tryz.func80 (by kernel_rfl) (wt_none rfl) (ev_dep (j := 4) (by kernel_rfl) rfl rfl) (ev_dep (j := 9) (by kernel_rfl) rfl rfl) (fun w2 u0 u1 hb h0 h1 => by exact (HS.out ▸ zadd_any _ _ _ _ _ h0 h1 (Nat.le_trans lp (by decide)) (Nat.le_trans lq (by decide))).mono fun e w3 h => RetZ.pd h hb.size)) ?_
        refine And.intro (ob_alloc (z := .agg #[.bool false, .slice none 0 0]) rfl rfl (fun _ => by kernel_rfl) (fun _ _ hB h => ⟨_, rfl, hB, h⟩)) ?_
        trivial
      case done39 =>
        refine fun w4 hb4 v0 h0 v1 h1 v2 h2 v3 h3 v4 h4 v5 h5 v6 h6 v7 h7 v8 h8 v9 h9 v10 h10 v11 h11 d11 b hbf => ?_
        obtain rfl := h0; obtain rfl := h1; obtain rfl := h2; obtain rfl := h5; obtain rfl := h6; obtain rfl := h7
        have q3 := h3
        have q4 := h4
        have q8 := h8
        have q9 := h9
        obtain ⟨q10, f10⟩ := h10
        obtain ⟨g39_11, rfl, hg11, B11⟩ := h11
        simp only [Act.put, List.setIfInBounds_toArray, List.set_cons_zero, List.set_cons_succ] at hbf
        subst hbf
        replace B0 := B0.below hb4
        replace k0s := k0s.below hb4
        replace k0d := k0d.below hb4
        replace k0z := k0z.below hb4
        replace k0 := k0.below hb4
        replace B1 := B1.below hb4
        replace k1s := k1s.below hb4
        replace k1d := k1d.below hb4
        replace k1z := k1z.below hb4
        replace k1 := k1.below hb4
        replace BR0 := BR0.below hb4
        replace kg := kg.below hb4
        replace n6 := n6.below hb4
        replace n8 := n8.below hb4
        replace bb := bb.trans (hb4.mono bb.size)
        have hsz4 := bb.size
        have s_10 := sB
        have BA10 := B11
        obtain ⟨u10, rfl, q10⟩ := q10
        obtain ⟨A10, c10, rfl, _⟩ := id q10
        refine any_store (i := 12) (by kernel_rfl) rfl rfl rfl rfl rfl rfl (cells := [.bool (ngB S), .slice A10 (digs 4294967296 (S).natAbs).length c10]) rfl BA10 rfl (by kernel_rfl) (one2 rfl rfl) fun w5 hg5 BN5 => ?_
        replace q10 := off q10 BA10 no_ints2 hg5
        replace kg := off kg BA10 no_ints2 hg5
        replace n6 := off n6 BA10 no_ints2 hg5
        replace n8 := off n8 BA10 no_ints2 hg5
        replace k0s := off k0s BA10 no_ints2 hg5
        replace k0d := off k0d BA10 no_ints2 hg5
        replace k0z : IsZ w5 (.agg #[.bool (ngB (x).num), .slice A0 (digs 4294967296 (x).num.natAbs).length c0]) ((x).num) := ⟨_, rfl, k0s⟩
        replace k0 : IsQ w5 (.agg #[.bool (ngB (x).num), .slice A0 (digs 4294967296 (x).num.natAbs).length c0, .slice D0 (digs 4294967296 (x).den).length e0]) (x) := ⟨_, _, rfl, k0s, k0d⟩
        replace B0 := B0.grown hg5 (by omega)
        replace k1s := off k1s BA10 no_ints2 hg5
        replace k1d := off k1d BA10 no_ints2 hg5
        replace k1z : IsZ w5 (.agg #[.bool (ngB (y).num), .slice A1 (digs 4294967296 (y).num.natAbs).length c1]) ((y).num) := ⟨_, rfl, k1s⟩
        replace k1 : IsQ w5 (.agg #[.bool (ngB (y).num), .slice A1 (digs 4294967296 (y).num.natAbs).length c1, .slice D1 (digs 4294967296 (y).den).length e1]) (y) := ⟨_, _, rfl, k1s, k1d⟩
        replace B1 := B1.grown hg5 (by omega)
        replace BR0 := BR0.grown hg5 (by omega)
        replace bb := bb.trans ((Below.refl _ _).grown hg5 bb.size (fun g hg => by injection hg with hg; omega))
        have hsz5 := bb.size
        have B10 : Blk w5 (g39_11) _ _ := BN5
        have k10s := q10
        have k10 : IsZ w5 (.agg #[.bool (ngB S), .slice A10 (digs 4294967296 (S).natAbs).length c10]) (S) := ⟨_, rfl, k10s⟩
        refine any_done (by kernel_rfl) ?_
        have sB := bb.size
        go_upto_region 5 with (fail)
        have lt5_2 := Blk.lt B0
        have lt5_3 := Blk.lt B1
        have lt5_4 := Blk.lt BR0
        have lt5_10 := Blk.lt B10
        refine flowp 7 [Pd.eq (.agg #[.bool (ngB S), .slice A10 (digs 4294967296 (S).natAbs).length c10]), Pd.eq (.slice Akg (digs 4294967296 G).length ckg), pzs (U) (L) w5.heap.size, pzs (U) (L) w5.heap.size, pz (U) w5.heap.size, ps .u64 (digs 4294967296 L) w5.heap.size, pn 26 #[.bool false, .slice none 0 0] w5.heap.size] (by kernel_rfl) ?ob40 ?done40
        case ob40 =>
          refine And.intro (ob_load rfl (wt_none rfl) (ev_far rfl rfl) (fun w2 hb => run_loadAll Tryz.underlying26 rfl (by kernel_rfl) (B10.below hb)) (fun _ _ => rfl)) ?_
          refine And.intro (ob_move rfl (wt_none rfl) (ev_far rfl rfl) (fun _ _ h => h)) ?_
          refine And.intro (ob_call2 rfl Tryz.func81 (by kernel_rfl) (wt_none rfl) (ev_dep (j := 0) (by kernel_rfl) rfl rfl) (ev_dep (j := 1) (by kernel_rfl) rfl rfl) (fun w2 u0 u1 hb h0 h1 => by obtain rfl := h0; obtain rfl := h1; exact (reduced_any _ S _ G U L _ (k10.below hb) (kg.below hb) HGn.out (Nat.le_trans lS (by decide)) (Nat.le_trans lG (by decide)) HU.out HL.out).mono fun e w3 h => RetZS.pd h hb.size)) ?_
          refine And.intro (ob_move rfl (wt_none rfl) (ev_dep (j := 2) (by kernel_rfl) rfl rfl) (fun _ _ h => h)) ?_
          refine And.intro (ob_extract rfl (wt_none rfl) (ev_dep (j := 3) (by kernel_rfl) rfl rfl) (fun w2 u hu => by obtain ⟨v, u, rfl, q1, q2, q3, q4⟩ := hu; exact ⟨v, rfl, q1, q3⟩)) ?_
          refine And.intro (ob_extract rfl (wt_none rfl) (ev_dep (j := 3) (by kernel_rfl) rfl rfl) (fun w2 u hu => by obtain ⟨v, u, rfl, q1, q2, q3, q4⟩ := hu; exact ⟨u, rfl, q2, q4⟩)) ?_
          refine And.intro (ob_alloc (z := .agg #[.bool false, .slice none 0 0]) rfl rfl (fun _ => by kernel_rfl) (fun _ _ hB h => ⟨_, rfl, hB, h⟩)) ?_
          trivial
        case done40 =>
          refine fun w6 hb6 v0 h0 v1 h1 v2 h2 v3 h3 v4 h4 v5 h5 v6 h6 d6 b hbf => ?_
          obtain rfl := h0; obtain rfl := h1
          clear h2
          clear h3
          obtain ⟨q4, f4⟩ := h4
          obtain ⟨q5, f5⟩ := h5
          obtain ⟨g40_6, rfl, hg6, B6⟩ := h6
          simp only [Act.put, List.setIfInBounds_toArray, List.set_cons_zero, List.set_cons_succ] at hbf
          subst hbf
          replace B0 := B0.below hb6
          replace k0s := k0s.below hb6
          replace k0d := k0d.below hb6
          replace k0z := k0z.below hb6
          replace k0 := k0.below hb6
          replace B1 := B1.below hb6
          replace k1s := k1s.below hb6
          replace k1d := k1d.below hb6
          replace k1z := k1z.below hb6
          replace k1 := k1.below hb6
          replace BR0 := BR0.below hb6
          replace B10 := B10.below hb6
          replace k10s := k10s.below hb6
          replace k10 := k10.below hb6
          replace kg := kg.below hb6
          replace n6 := n6.below hb6
          replace n8 := n8.below hb6
          replace bb := bb.trans (hb6.mono bb.size)
          have hsz6 := bb.size
          have s_4 := sB
          have s_5 := sB
          obtain ⟨A49, c49, rfl, _⟩ := id q5
          have n49 := q5
          have n49f := f5
          have n49z_ := s_5
          have BA11 := B6
          obtain ⟨u4, rfl, q4⟩ := q4
          obtain ⟨A11, c11, rfl, _⟩ := id q4
          refine ops_store (i := 7) rfl rfl rfl rfl rfl rfl (cells := [.bool (ngB U), .slice A11 (digs 4294967296 (U).natAbs).length c11]) rfl BA11 rfl (by kernel_rfl) (one2 rfl rfl) fun w7 hg7 BN7 => ?_
          replace q4 := off q4 BA11 no_ints2 hg7
          replace kg := off kg BA11 no_ints2 hg7
          replace n6 := off n6 BA11 no_ints2 hg7
          replace n8 := off n8 BA11 no_ints2 hg7
          replace n49 := off n49 BA11 no_ints2 hg7
          replace k0s := off k0s BA11 no_ints2 hg7
          replace k0d := off k0d BA11 no_ints2 hg7
          replace k0z : IsZ w7 (.agg #[.bool (ngB (x).num), .slice A0 (digs 4294967296 (x).num.natAbs).length c0]) ((x).num) := ⟨_, rfl, k0s⟩
          replace k0 : IsQ w7 (.agg #[.bool (ngB (x).num), .slice A0 (digs 4294967296 (x).num.natAbs).length c0, .slice D0 (digs 4294967296 (x).den).length e0]) (x) := ⟨_, _, rfl, k0s, k0d⟩
          replace B0 := B0.grown hg7 (by omega)
          replace k1s := off k1s BA11 no_ints2 hg7
          replace k1d := off k1d BA11 no_ints2 hg7
          replace k1z : IsZ w7 (.agg #[.bool (ngB (y).num), .slice A1 (digs 4294967296 (y).num.natAbs).length c1]) ((y).num) := ⟨_, rfl, k1s⟩
          replace k1 : IsQ w7 (.agg #[.bool (ngB (y).num), .slice A1 (digs 4294967296 (y).num.natAbs).length c1, .slice D1 (digs 4294967296 (y).den).length e1]) (y) := ⟨_, _, rfl, k1s, k1d⟩
          replace B1 := B1.grown hg7 (by omega)
          replace BR0 := BR0.grown hg7 (by omega)
          replace k10s := off k10s BA11 no_ints2 hg7
          replace k10 : IsZ w7 (.agg #[.bool (ngB S), .slice A10 (digs 4294967296 (S).natAbs).length c10]) (S) := ⟨_, rfl, k10s⟩
          replace B10 := B10.grown hg7 (by omega)
          replace bb := bb.trans ((Below.refl _ _).grown hg7 bb.size (fun g hg => by injection hg with hg; omega))
          have hsz7 := bb.size
          have B11 : Blk w7 (g40_6) _ _ := BN7
          have k11s := q4
          have k11 : IsZ w7 (.agg #[.bool (ngB U), .slice A11 (digs 4294967296 (U).natAbs).length c11]) (U) := ⟨_, rfl, k11s⟩
          refine ops_assign (i := 8) (.slice A49 (digs 4294967296 L).length c49) rfl rfl rfl rfl rfl fun b hbf => ?_
          simp only [Act.put, List.setIfInBounds_toArray, List.set_cons_zero, List.set_cons_succ] at hbf
          subst hbf
          refine ops_done ?_
          have f11_ := (f4 _ _ rfl).mono s_4
          have sB := bb.size
          go_upto_region 6 with (fail)
          refine flow 7 [Pd.eq (.agg #[.bool (ngB U), .slice A11 (digs 4294967296 (U).natAbs).length c11]), Pd.eq (.slice A6 (digs 4294967296 m1).length c6), Pd.eq (.slice A8 (digs 4294967296 m2).length c8), ps .u64 (digs 4294967296 (m1 * m2)) w7.heap.size, Pd.eq (.slice A49 (digs 4294967296 L).length c49), ps .u64 (digs 4294967296 ((m1 * m2) * L)) w7.heap.size, pbq (ngB U) (.slice A11 (digs 4294967296 (U).natAbs).length c11) (digs 4294967296 ((m1 * m2) * L)) w7.heap.size] (by kernel_rfl) (by kernel_rfl) ?ob41 ?done41
          case ob41 =>
            refine And.intro (ob_load rfl (wt_none rfl) (ev_far rfl rfl) (fun w2 hb => run_loadAll Tryz.underlying26 rfl (by kernel_rfl) (B11.drew.below hb)) (fun _ _ => rfl)) ?_
            refine And.intro (ob_move rfl (wt_none rfl) (ev_far rfl rfl) (fun _ _ h => h)) ?_
            refine And.intro (ob_move rfl (wt_none rfl) (ev_far rfl rfl) (fun _ _ h => h)) ?_
            refine And.intro (ob_call2 rfl Tryz.func82 (by kernel_rfl) (wt_none rfl) (ev_dep (j := 1) (by kernel_rfl) rfl rfl) (ev_dep (j := 2) (by kernel_rfl) rfl rfl) (fun w2 u0 u1 hb h0 h1 => by obtain rfl := h0; obtain rfl := h1; exact (times_any _ m1 _ m2 _ (n6.drew.below hb) (n8.drew.below hb) (Nat.le_trans la (by decide)) (Nat.le_trans lb (by decide))).mono fun e w3 h => RetS.pd h hb.size)) ?_
            refine And.intro (ob_move rfl (wt_none rfl) (ev_far rfl rfl) (fun _ _ h => h)) ?_
            refine And.intro (ob_call2 rfl Tryz.func82 (by kernel_rfl) (wt_none rfl) (ev_dep (j := 3) (by kernel_rfl) rfl rfl) (ev_dep (j := 4) (by kernel_rfl) rfl rfl) (fun w2 u0 u1 hb h0 h1 => by obtain rfl := h1; exact (times_any _ (m1 * m2) _ L _ h0.1 (n49.drew.below hb) (Nat.le_trans lab (by decide)) (Nat.le_trans lL (by decide))).mono fun e w3 h => RetS.pd h hb.size)) ?_
            refine And.intro (ob_build2b rfl (wt_none rfl) (ev_dep (j := 0) (by kernel_rfl) rfl rfl) (ev_dep (j := 5) (by kernel_rfl) rfl rfl) (fun w2 u v hb hu hv => by obtain rfl := hu; obtain ⟨A7, c7, rfl, _⟩ := id hv.1; exact ⟨.agg #[.bool (ngB U), .slice A11 (digs 4294967296 (U).natAbs).length c11, .slice A7 (digs 4294967296 ((m1 * m2) * L)).length c7], by kernel_rfl, ⟨A7, c7, rfl, hv.1, hv.2⟩⟩)) ?_
            trivial
          case done41 =>
            refine fun w8 hb8 v0 h0 v1 h1 v2 h2 v3 h3 v4 h4 v5 h5 v6 h6 b hbf => ?_
            obtain rfl := h0; obtain rfl := h1; obtain rfl := h2; obtain rfl := h4
            obtain ⟨q3, f3⟩ := h3
            obtain ⟨q5, f5⟩ := h5
            have q6 := h6; have s9_ := sB
            simp only [Act.put, List.setIfInBounds_toArray, List.set_cons_zero, List.set_cons_succ] at hbf
            subst hbf
            replace B0 := B0.below hb8
            replace k0s := k0s.below hb8
            replace k0d := k0d.below hb8
            replace k0z := k0z.below hb8
            replace k0 := k0.below hb8
            replace B1 := B1.below hb8
            replace k1s := k1s.below hb8
            replace k1d := k1d.below hb8
            replace k1z := k1z.below hb8
            replace k1 := k1.below hb8
            replace BR0 := BR0.below hb8
            replace B10 := B10.below hb8
            replace k10s := k10s.below hb8
            replace k10 := k10.below hb8
            replace B11 := B11.below hb8
            replace k11s := k11s.below hb8
            replace k11 := k11.below hb8
            replace kg := kg.below hb8
            replace n6 := n6.below hb8
            replace n8 := n8.below hb8
            replace n49 := n49.below hb8
            replace bb := bb.trans (hb8.mono bb.size)
            have hsz8 := bb.size
            have s_3 := sB
            have s_5 := sB
            obtain ⟨A9, c9, rfl, q9, f9⟩ := q6
            refine any_store (i := 7) (by kernel_rfl) rfl rfl rfl rfl rfl rfl (cells := [.bool (ngB U), .slice A11 (digs 4294967296 (U).natAbs).length c11, .slice A9 (digs 4294967296 ((m1 * m2) * L)).length c9]) rfl BR0 rfl (by kernel_rfl) (one3 rfl rfl rfl) fun w9 hg9 B9 => ?_
            have k9 := off k11s BR0 no_ints3 hg9
            have d9 := off q9 BR0 no_ints3 hg9
            have bb9 := bb.trans ((Below.refl _ _).grown hg9 bb.size (fun g hg => by injection hg with hg; omega))
            obtain ⟨C0, C1, C2, _, _, _⟩ := three B9
            refine any_done (by kernel_rfl) ?_
            go_wp2
            rw [HQ0.out]
            exact bodyPost_ret (v := .agg #[.bool (ngB U), .slice A11 (digs 4294967296 (U).natAbs).length c11, .slice A9 (digs 4294967296 ((m1 * m2) * L)).length c9]) (by simp [results, Tryz.results46, go_sem, C0, C1, C2]) rfl ⟨_, rfl, isQ_mk k9 d9 (by rw [HQN.out]) (by rw [HQN.out]) HQD.out, freshQ_mk f11_ (f9.mono s9_), bb9⟩
set_option maxHeartbeats 1600000 in
set_option maxRecDepth 100000 in
theorem of8_any (n : Int) (w : World) (h1 : -9223372036854775808 ≤ n) (h2 : n ≤ 9223372036854775807) :
    Calls Tryz.prog 45 #[.int .i64 n] w (RetQ (n : Rat) w) := by
  obtain ⟨Q, hQ⟩ : ∃ Q, Q = (n : Rat) := ⟨_, rfl⟩
  have HQ0 : Hid ((n : Rat) = Q) := hQ.symm
  have HQN : Hid (Q.num = n) := by show _ = _; rw [hQ]; exact Rat.num_intCast n
  have HQD : Hid (Q.den = 1) := by show _ = _; rw [hQ]; exact Rat.den_intCast n
  clear hQ
  go_enter Tryz.func45, Tryz.ntmps45
  go_upto_region 1 with (fail)
  obtain ⟨wx, hwx, bb, BR0, hsz⟩ := vars1 w 28 #[.bool false, .slice none 0 0, .slice none 0 0]
  rw [hwx]
  clear hwx
  have hsz0 := bb.size
  have sB := bb.size
  refine flowp 4 [Pd.eq (.int .i64 n), pz ((Q).num) wx.heap.size, ps .u64 (digs 4294967296 (Q).den) wx.heap.size, pq (Q) wx.heap.size] (by kernel_rfl) ?ob19 ?done19
  case ob19 =>
    refine And.intro (ob_move rfl (wt_none rfl) (ev_far rfl rfl) (fun _ _ h => h)) ?_
    refine And.intro (ob_call1 rfl Tryz.func76 (by kernel_rfl) (wt_none rfl) (ev_dep (j := 0) (by kernel_rfl) rfl rfl) (fun w2 u0 hb h0 => by obtain rfl := h0; exact (zof_any n _ h1 h2).mono fun e w3 h => RetZ.pd (RetZ.to h HQN.out.symm) hb.size)) ?_
    refine And.intro (ob_call1 rfl Tryz.func77 (by kernel_rfl) (wt_none rfl) (ev_const _) (fun w2 u0 hb h0 => by obtain rfl := h0; exact (of_any 1 1 _ rfl (by omega)).mono fun e w3 h => RetS.pd (RetS.to h (congrArg (digs 4294967296) HQD.out.symm)) hb.size)) ?_
    refine And.intro (ob_build2b rfl (wt_none rfl) (ev_dep (j := 1) (by kernel_rfl) rfl rfl) (ev_dep (j := 2) (by kernel_rfl) rfl rfl) (fun w2 u v hb hu hv => by obtain ⟨u7, rfl, hu7⟩ := hu.1; obtain ⟨A7, c7, rfl, _⟩ := id hu7; obtain ⟨A8, c8, rfl, _⟩ := id hv.1; exact ⟨.agg #[.bool (ngB (Q).num), .slice A7 (digs 4294967296 (Q).num.natAbs).length c7, .slice A8 (digs 4294967296 (Q).den).length c8], by kernel_rfl, ⟨⟨_, _, rfl, hu7, hv.1⟩, freshQ_mk (hu.2 _ _ rfl) hv.2⟩⟩)) ?_
    trivial
  case done19 =>
    refine fun w1 hb1 v0 h0 v1 h1 v2 h2 v3 h3 b hbf => ?_
    obtain rfl := h0
    obtain ⟨q1, f1⟩ := h1
    obtain ⟨q2, f2⟩ := h2
    obtain ⟨q3, f3⟩ := h3
    simp only [Act.put, List.setIfInBounds_toArray, List.set_cons_zero, List.set_cons_succ] at hbf
    subst hbf
    replace BR0 := BR0.below hb1
    replace bb := bb.trans (hb1.mono bb.size)
    have hsz1 := bb.size
    have s_1 := sB
    have s_2 := sB
    have s_3 := sB
    obtain ⟨u3, t3, rfl, q3, d3⟩ := q3
    obtain ⟨A9, c9, rfl, _⟩ := id q3
    obtain ⟨D9, e9, rfl, _⟩ := id d3
    refine ops_store (i := 4) rfl rfl rfl rfl rfl rfl (cells := [.bool (ngB (Q).num), .slice A9 (digs 4294967296 (Q).num.natAbs).length c9, .slice D9 (digs 4294967296 (Q).den).length e9]) rfl BR0 rfl (by kernel_rfl) (one3 rfl rfl rfl) fun w9 hg9 B9 => ?_
    have k9 := off q3 BR0 no_ints3 hg9
    have d9 := off d3 BR0 no_ints3 hg9
    have f9 := f3.mono (show w.heap.size ≤ _ from s_3)
    have bb9 := bb.trans ((Below.refl _ _).grown hg9 bb.size (fun g hg => by injection hg with hg; omega))
    obtain ⟨C0, C1, C2, _, _, _⟩ := three B9
    refine ops_done ?_
    go_wp2
    rw [HQ0.out]
    exact bodyPost_ret (v := .agg #[.bool (ngB (Q).num), .slice A9 (digs 4294967296 (Q).num.natAbs).length c9, .slice D9 (digs 4294967296 (Q).den).length e9]) (by simp [results, Tryz.results45, go_sem, C0, C1, C2]) rfl ⟨_, rfl, ⟨_, _, rfl, k9, d9⟩, f9, bb9⟩
theorem limbs_any (v u : Value) (l m : List Nat) (b : Bool) (w : World) (h : IsS w .u64 v l) (h' : IsS w .u64 u m) (hu : Lt 18446744073709551616 l) (hu' : Lt 18446744073709551616 m) (hb_ : b = sameB l m) :
    Calls Tryz.prog 108 #[v, u] w (RetV (.bool b) w) := by
  have HB := Lib.hid hb_
  clear hb_
  obtain ⟨A, c, rfl, hc, hm, hr⟩ := h
  obtain ⟨A', c', rfl, hc', hmm, hr'⟩ := h'
  unfold maxLen at hm hmm
  by_cases hne : l.length = m.length
  · have hb1 : ((l.length : Int) != (m.length : Int)) = false := by rw [hne]; simp
    have HL := Lib.hid hne
    have hl1 : l.length ≤ m.length := by omega
    have hl2 : m.length ≤ l.length := by omega
    clear hne
    go_enter Tryz.func108, Tryz.ntmps108
    go_wp2
    go_loopw [13] (fun vi wr => ∃ k : Nat, k ≤ l.length ∧ Hid (l.take k = m.take k) ∧ Below w.heap.size w wr ∧ vi = .int .i64 (k : Int)) (fun vi _ => l.length - (intOf vi).toNat)
    case atStart => exact ⟨0, by omega, by show _ = _; simp, Below.refl _ _, rfl⟩
    case round =>
      obtain ⟨k, hk, HT, hb, rfl⟩ := hrel
      by_cases hlt : k < l.length
      · obtain ⟨ad, d, rfl, hd, hcell⟩ := (hr.below hb).at_ hlt
        obtain ⟨ad', e, rfl, he, hcell'⟩ := (hr'.below hb).at_ (i := k) (by omega)
        by_cases hde : d = e
        · subst hde
          have HN : Hid (l.take (k + 1) = m.take (k + 1)) := by show _ = _; rw [take_step hd, take_step he, HT.out]
          have hz : ((d : Int) != (d : Int)) = false := by simp
          clear hd he
          go_wp2
          go_quiet (fail)
          go_wp2
          go_roundw
          case rel => exact ⟨k + 1, by omega, HN, below_drewN hb _, by go_num⟩
          case measure => simp [intOf]; omega
        · have HN : Hid (sameB l m = false) := sameB_at hd he hde
          have hz : ((d : Int) != (e : Int)) = true := by rw [bne_iff_ne]; omega
          clear hd he hde
          go_wp2
          go_quiet (fail)
          go_wp2
          go_ret
          exact ⟨by rw [HB.out, HN.out]; rfl, below_drewN hb _⟩
      · obtain rfl : k = l.length := by omega
        have HN : Hid (sameB l m = true) := by
          have := HT.out
          rw [List.take_length, List.take_of_length_le hl2] at this
          rw [this]; exact sameB_refl m
        go_wp2
        go_ret
        exact ⟨by rw [HB.out, HN.out]; rfl, hb⟩
  · have hb1 : ((l.length : Int) != (m.length : Int)) = true := by rw [bne_iff_ne]; omega
    have HN : Hid (sameB l m = false) := sameB_of_len hne
    clear hne
    go_enter Tryz.func108, Tryz.ntmps108
    go_wp2
    go_ret
    exact ⟨by rw [HB.out, HN.out]; rfl, Below.refl _ _⟩
theorem limbs_num (v u : Value) (x y : Nat) (b : Bool) (w : World) (h : IsS w .u64 v (digs 4294967296 x)) (h' : IsS w .u64 u (digs 4294967296 y)) (hb : b = decide (x = y)) :
    Calls Tryz.prog 108 #[v, u] w (RetV (.bool b) w) :=
  limbs_any v u _ _ b w h h' (digs_lt_u x) (digs_lt_u y) (by rw [hb, sameB_digs])
set_option maxHeartbeats 1600000 in
set_option maxRecDepth 100000 in
theorem same8_any (a0 a1 : Value) (x y : Rat) (b : Bool) (w : World) (h0 : IsQ w a0 x) (h1 : IsQ w a1 y) (hb : b = decide (x = y)) :
    Calls Tryz.prog 85 #[a0, a1] w (RetV (.bool b) w) := by
  by_cases hs : ngB x.num = ngB y.num
  · by_cases hn : x.num.natAbs = y.num.natAbs
    · obtain ⟨u0, t0, rfl, s0, r0⟩ := h0
      obtain ⟨A0, c0, rfl, _⟩ := id s0
      obtain ⟨D0, e0, rfl, _⟩ := id r0
      obtain ⟨u1, t1, rfl, s1, r1⟩ := h1
      obtain ⟨A1, c1, rfl, _⟩ := id s1
      obtain ⟨D1, e1, rfl, _⟩ := id r1
      have HE : Hid ((ngB x.num == ngB y.num) = true) := by show _ = _; rw [hs]; exact beq_self_eq_true _
      have HB : Hid (b = decide (x.den = y.den)) := by show _ = _; rw [hb, decide_eq_decide, eq_parts]; exact ⟨fun e => e.2, fun e => ⟨by rw [← sg_self x.num, ← sg_self y.num, hs, hn], e⟩⟩
      clear hb hs
      have HN : Hid (true = decide (x.num.natAbs = y.num.natAbs)) := (decide_eq_true hn).symm
      clear hn
      go_enter Tryz.func85, Tryz.ntmps85
      go_upto_region 1 with (fail)
      obtain ⟨wx, hwx, bb, B0, B1, hsz⟩ := vars2 w 28 28 #[.bool (ngB (x).num), .slice A0 (digs 4294967296 (x).num.natAbs).length c0, .slice D0 (digs 4294967296 (x).den).length e0] #[.bool (ngB (y).num), .slice A1 (digs 4294967296 (y).num.natAbs).length c1, .slice D1 (digs 4294967296 (y).den).length e1]
      rw [hwx]
      clear hwx
      have k0s := s0.below bb
      have k0d := r0.below bb
      have k0z : IsZ wx (.agg #[.bool (ngB (x).num), .slice A0 (digs 4294967296 (x).num.natAbs).length c0]) (x).num := ⟨_, rfl, k0s⟩
      have k0 : IsQ wx (.agg #[.bool (ngB (x).num), .slice A0 (digs 4294967296 (x).num.natAbs).length c0, .slice D0 (digs 4294967296 (x).den).length e0]) (x) := ⟨_, _, rfl, k0s, k0d⟩
      have k1s := s1.below bb
      have k1d := r1.below bb
      have k1z : IsZ wx (.agg #[.bool (ngB (y).num), .slice A1 (digs 4294967296 (y).num.natAbs).length c1]) (y).num := ⟨_, rfl, k1s⟩
      have k1 : IsQ wx (.agg #[.bool (ngB (y).num), .slice A1 (digs 4294967296 (y).num.natAbs).length c1, .slice D1 (digs 4294967296 (y).den).length e1]) (y) := ⟨_, _, rfl, k1s, k1d⟩
      have hsz0 := bb.size
      have sB := bb.size
      refine flowp 24 [Pd.eq (.pointer (some ⟨w.heap.size, 0, none⟩)), Pd.eq (.pointer (some ⟨w.heap.size, 0, none⟩)), Pd.eq (.bool (ngB (x).num)), Pd.eq (.pointer (some ⟨w.heap.size + 1, 0, none⟩)), Pd.eq (.pointer (some ⟨w.heap.size + 1, 0, none⟩)), Pd.eq (.bool (ngB (y).num)), Pd.eq (.bool true), Pd.eq (.bool true), Pd.eq (.pointer (some ⟨w.heap.size, 0, none⟩)), Pd.eq (.pointer (some ⟨w.heap.size, 1, none⟩)), Pd.eq (.slice A0 (digs 4294967296 (x).num.natAbs).length c0), Pd.eq (.pointer (some ⟨w.heap.size + 1, 0, none⟩)), Pd.eq (.pointer (some ⟨w.heap.size + 1, 1, none⟩)), Pd.eq (.slice A1 (digs 4294967296 (y).num.natAbs).length c1), Pd.eq (.bool true), Pd.eq (.bool true), Pd.eq (.bool true), Pd.eq (.pointer (some ⟨w.heap.size, 2, none⟩)), Pd.eq (.slice D0 (digs 4294967296 (x).den).length e0), Pd.eq (.pointer (some ⟨w.heap.size + 1, 2, none⟩)), Pd.eq (.slice D1 (digs 4294967296 (y).den).length e1), Pd.eq (.bool b), Pd.eq (.bool b), Pd.eq (.bool b)] (by kernel_rfl) ?ob46 ?done46
      case ob46 =>
        refine And.intro (ob_fieldAddr rfl (wt_none rfl) (ev_far rfl rfl) (fun _ => by kernel_rfl) (fun _ => rfl)) ?_
        refine And.intro (ob_fieldAddr rfl (wt_none rfl) (ev_dep (j := 0) (by kernel_rfl) rfl rfl) (fun _ => by kernel_rfl) (fun _ => rfl)) ?_
        refine And.intro (ob_load rfl (wt_none rfl) (ev_dep (j := 1) (by kernel_rfl) rfl rfl) (fun w2 hb => run_load1 Tryz.underlying4 rfl ((B0.below hb).cell 0)) (fun _ _ => rfl)) ?_
        refine And.intro (ob_fieldAddr rfl (wt_none rfl) (ev_far rfl rfl) (fun _ => by kernel_rfl) (fun _ => rfl)) ?_
        refine And.intro (ob_fieldAddr rfl (wt_none rfl) (ev_dep (j := 3) (by kernel_rfl) rfl rfl) (fun _ => by kernel_rfl) (fun _ => rfl)) ?_
        refine And.intro (ob_load rfl (wt_none rfl) (ev_dep (j := 4) (by kernel_rfl) rfl rfl) (fun w2 hb => run_load1 Tryz.underlying4 rfl ((B1.below hb).cell 0)) (fun _ _ => rfl)) ?_
        refine And.intro (ob_bin rfl (wt_none rfl) (ev_dep (j := 2) (by kernel_rfl) rfl rfl) (ev_dep (j := 5) (by kernel_rfl) rfl rfl) (fun _ _ _ hx hy => ⟨.bool true, by rw [hx, hy]; exact (bin_eql_bool _ _ _ _ Tryz.underlying4 _).trans (by rw [HE.out]), rfl⟩)) ?_
        refine And.intro (ob_move rfl (wt_none rfl) (ev_dep (j := 6) (by kernel_rfl) rfl rfl) (fun _ _ h => h)) ?_
        refine And.intro (ob_fieldAddr rfl (wt_dep (c := true) (b := true) (g := 7) rfl (by kernel_rfl) rfl rfl rfl (by exact fun _ _ h => h)) (ev_far rfl rfl) (fun _ => by kernel_rfl) (fun _ => rfl)) ?_
        refine And.intro (ob_fieldAddr rfl (wt_dep (c := true) (b := true) (g := 7) rfl (by kernel_rfl) rfl rfl rfl (by exact fun _ _ h => h)) (ev_dep (j := 8) (by kernel_rfl) rfl rfl) (fun _ => by kernel_rfl) (fun _ => rfl)) ?_
        refine And.intro (ob_load rfl (wt_dep (c := true) (b := true) (g := 7) rfl (by kernel_rfl) rfl rfl rfl (by exact fun _ _ h => h)) (ev_dep (j := 9) (by kernel_rfl) rfl rfl) (fun w2 hb => run_load1 Tryz.underlying24 rfl ((B0.below hb).cell 1)) (fun _ _ => rfl)) ?_
        refine And.intro (ob_fieldAddr rfl (wt_dep (c := true) (b := true) (g := 7) rfl (by kernel_rfl) rfl rfl rfl (by exact fun _ _ h => h)) (ev_far rfl rfl) (fun _ => by kernel_rfl) (fun _ => rfl)) ?_
        refine And.intro (ob_fieldAddr rfl (wt_dep (c := true) (b := true) (g := 7) rfl (by kernel_rfl) rfl rfl rfl (by exact fun _ _ h => h)) (ev_dep (j := 11) (by kernel_rfl) rfl rfl) (fun _ => by kernel_rfl) (fun _ => rfl)) ?_
        refine And.intro (ob_load rfl (wt_dep (c := true) (b := true) (g := 7) rfl (by kernel_rfl) rfl rfl rfl (by exact fun _ _ h => h)) (ev_dep (j := 12) (by kernel_rfl) rfl rfl) (fun w2 hb => run_load1 Tryz.underlying24 rfl ((B1.below hb).cell 1)) (fun _ _ => rfl)) ?_
        refine And.intro (ob_call2 rfl Tryz.func108 (by kernel_rfl) (wt_dep (c := true) (b := true) (g := 7) rfl (by kernel_rfl) rfl rfl rfl (by exact fun _ _ h => h)) (ev_dep (j := 10) (by kernel_rfl) rfl rfl) (ev_dep (j := 13) (by kernel_rfl) rfl rfl) (fun w2 u0 u1 hb h0 h1 => by obtain rfl := h0; obtain rfl := h1; exact (limbs_num _ _ (x).num.natAbs (y).num.natAbs true _ (k0s.below hb) (k1s.below hb) HN.out).mono fun e w3 h => RetV.pd h)) ?_
        refine And.intro (ob_pick (b := true) rfl (wt_none rfl) (ev_dep (j := 7) (by kernel_rfl) rfl rfl) (ev_dep (j := 14) (by kernel_rfl) rfl rfl) (fun _ _ h => h)) ?_
        refine And.intro (ob_move rfl (wt_none rfl) (ev_dep (j := 15) (by kernel_rfl) rfl rfl) (fun _ _ h => h)) ?_
        refine And.intro (ob_fieldAddr rfl (wt_dep (c := true) (b := true) (g := 16) rfl (by kernel_rfl) rfl rfl rfl (by exact fun _ _ h => h)) (ev_far rfl rfl) (fun _ => by kernel_rfl) (fun _ => rfl)) ?_
        refine And.intro (ob_load rfl (wt_dep (c := true) (b := true) (g := 16) rfl (by kernel_rfl) rfl rfl rfl (by exact fun _ _ h => h)) (ev_dep (j := 17) (by kernel_rfl) rfl rfl) (fun w2 hb => run_load1 Tryz.underlying24 rfl ((B0.below hb).cell 2)) (fun _ _ => rfl)) ?_
        refine And.intro (ob_fieldAddr rfl (wt_dep (c := true) (b := true) (g := 16) rfl (by kernel_rfl) rfl rfl rfl (by exact fun _ _ h => h)) (ev_far rfl rfl) (fun _ => by kernel_rfl) (fun _ => rfl)) ?_
        refine And.intro (ob_load rfl (wt_dep (c := true) (b := true) (g := 16) rfl (by kernel_rfl) rfl rfl rfl (by exact fun _ _ h => h)) (ev_dep (j := 19) (by kernel_rfl) rfl rfl) (fun w2 hb => run_load1 Tryz.underlying24 rfl ((B1.below hb).cell 2)) (fun _ _ => rfl)) ?_
        refine And.intro (ob_call2 rfl Tryz.func108 (by kernel_rfl) (wt_dep (c := true) (b := true) (g := 16) rfl (by kernel_rfl) rfl rfl rfl (by exact fun _ _ h => h)) (ev_dep (j := 18) (by kernel_rfl) rfl rfl) (ev_dep (j := 20) (by kernel_rfl) rfl rfl) (fun w2 u0 u1 hb h0 h1 => by obtain rfl := h0; obtain rfl := h1; exact (limbs_num _ _ (x).den (y).den b _ (k0d.below hb) (k1d.below hb) HB.out).mono fun e w3 h => RetV.pd h)) ?_
        refine And.intro (ob_pick (b := true) rfl (wt_none rfl) (ev_dep (j := 16) (by kernel_rfl) rfl rfl) (ev_dep (j := 21) (by kernel_rfl) rfl rfl) (fun _ _ h => h)) ?_
        refine And.intro (ob_assign rfl (wt_none rfl) (ev_dep (j := 22) (by kernel_rfl) rfl rfl) (fun _ _ h => h)) ?_
        trivial
      case done46 =>
        refine fun w1 hb1 v0 h0 v1 h1 v2 h2 v3 h3 v4 h4 v5 h5 v6 h6 v7 h7 v8 h8 v9 h9 v10 h10 v11 h11 v12 h12 v13 h13 v14 h14 v15 h15 v16 h16 v17 h17 v18 h18 v19 h19 v20 h20 v21 h21 v22 h22 v23 h23 b hbf => ?_
        obtain rfl := h0; obtain rfl := h1; obtain rfl := h2; obtain rfl := h3; obtain rfl := h4; obtain rfl := h5; obtain rfl := h6; obtain rfl := h7; obtain rfl := h8; obtain rfl := h9; obtain rfl := h10; obtain rfl := h11; obtain rfl := h12; obtain rfl := h13; obtain rfl := h14; obtain rfl := h15; obtain rfl := h16; obtain rfl := h17; obtain rfl := h18; obtain rfl := h19; obtain rfl := h20; obtain rfl := h21; obtain rfl := h22; obtain rfl := h23
        simp only [Act.put, List.setIfInBounds_toArray, List.set_cons_zero, List.set_cons_succ] at hbf
        subst hbf
        replace B0 := B0.below hb1
        replace k0s := k0s.below hb1
        replace k0d := k0d.below hb1
        replace k0z := k0z.below hb1
        replace k0 := k0.below hb1
        replace B1 := B1.below hb1
        replace k1s := k1s.below hb1
        replace k1d := k1d.below hb1
        replace k1z := k1z.below hb1
        replace k1 := k1.below hb1
        replace bb := bb.trans (hb1.mono bb.size)
        have hsz1 := bb.size
        refine ops_done ?_
        go_wp2
        go_ret
        exact ⟨rfl, bb⟩
    · obtain ⟨u0, t0, rfl, s0, r0⟩ := h0
      obtain ⟨A0, c0, rfl, _⟩ := id s0
      obtain ⟨D0, e0, rfl, _⟩ := id r0
      obtain ⟨u1, t1, rfl, s1, r1⟩ := h1
      obtain ⟨A1, c1, rfl, _⟩ := id s1
      obtain ⟨D1, e1, rfl, _⟩ := id r1
      have HE : Hid ((ngB x.num == ngB y.num) = true) := by show _ = _; rw [hs]; exact beq_self_eq_true _
      obtain rfl : b = false := by rw [hb, decide_eq_false_iff_not]; exact fun e => hn (by rw [e])
      clear hb hs
      have HN : Hid (false = decide (x.num.natAbs = y.num.natAbs)) := (decide_eq_false hn).symm
      clear hn
      go_enter Tryz.func85, Tryz.ntmps85
      go_upto_region 1 with (fail)
      obtain ⟨wx, hwx, bb, B0, B1, hsz⟩ := vars2 w 28 28 #[.bool (ngB (x).num), .slice A0 (digs 4294967296 (x).num.natAbs).length c0, .slice D0 (digs 4294967296 (x).den).length e0] #[.bool (ngB (y).num), .slice A1 (digs 4294967296 (y).num.natAbs).length c1, .slice D1 (digs 4294967296 (y).den).length e1]
      rw [hwx]
      clear hwx
      have k0s := s0.below bb
      have k0d := r0.below bb
      have k0z : IsZ wx (.agg #[.bool (ngB (x).num), .slice A0 (digs 4294967296 (x).num.natAbs).length c0]) (x).num := ⟨_, rfl, k0s⟩
      have k0 : IsQ wx (.agg #[.bool (ngB (x).num), .slice A0 (digs 4294967296 (x).num.natAbs).length c0, .slice D0 (digs 4294967296 (x).den).length e0]) (x) := ⟨_, _, rfl, k0s, k0d⟩
      have k1s := s1.below bb
      have k1d := r1.below bb
      have k1z : IsZ wx (.agg #[.bool (ngB (y).num), .slice A1 (digs 4294967296 (y).num.natAbs).length c1]) (y).num := ⟨_, rfl, k1s⟩
      have k1 : IsQ wx (.agg #[.bool (ngB (y).num), .slice A1 (digs 4294967296 (y).num.natAbs).length c1, .slice D1 (digs 4294967296 (y).den).length e1]) (y) := ⟨_, _, rfl, k1s, k1d⟩
      have hsz0 := bb.size
      have sB := bb.size
      refine flowp 24 [Pd.eq (.pointer (some ⟨w.heap.size, 0, none⟩)), Pd.eq (.pointer (some ⟨w.heap.size, 0, none⟩)), Pd.eq (.bool (ngB (x).num)), Pd.eq (.pointer (some ⟨w.heap.size + 1, 0, none⟩)), Pd.eq (.pointer (some ⟨w.heap.size + 1, 0, none⟩)), Pd.eq (.bool (ngB (y).num)), Pd.eq (.bool true), Pd.eq (.bool true), Pd.eq (.pointer (some ⟨w.heap.size, 0, none⟩)), Pd.eq (.pointer (some ⟨w.heap.size, 1, none⟩)), Pd.eq (.slice A0 (digs 4294967296 (x).num.natAbs).length c0), Pd.eq (.pointer (some ⟨w.heap.size + 1, 0, none⟩)), Pd.eq (.pointer (some ⟨w.heap.size + 1, 1, none⟩)), Pd.eq (.slice A1 (digs 4294967296 (y).num.natAbs).length c1), Pd.eq (.bool false), Pd.eq (.bool false), Pd.eq (.bool false), Pd.any, Pd.any, Pd.any, Pd.any, Pd.any, Pd.eq (.bool false), Pd.eq (.bool false)] (by kernel_rfl) ?ob45 ?done45
      case ob45 =>
        refine And.intro (ob_fieldAddr rfl (wt_none rfl) (ev_far rfl rfl) (fun _ => by kernel_rfl) (fun _ => rfl)) ?_
        refine And.intro (ob_fieldAddr rfl (wt_none rfl) (ev_dep (j := 0) (by kernel_rfl) rfl rfl) (fun _ => by kernel_rfl) (fun _ => rfl)) ?_
        refine And.intro (ob_load rfl (wt_none rfl) (ev_dep (j := 1) (by kernel_rfl) rfl rfl) (fun w2 hb => run_load1 Tryz.underlying4 rfl ((B0.below hb).cell 0)) (fun _ _ => rfl)) ?_
        refine And.intro (ob_fieldAddr rfl (wt_none rfl) (ev_far rfl rfl) (fun _ => by kernel_rfl) (fun _ => rfl)) ?_
        refine And.intro (ob_fieldAddr rfl (wt_none rfl) (ev_dep (j := 3) (by kernel_rfl) rfl rfl) (fun _ => by kernel_rfl) (fun _ => rfl)) ?_
        refine And.intro (ob_load rfl (wt_none rfl) (ev_dep (j := 4) (by kernel_rfl) rfl rfl) (fun w2 hb => run_load1 Tryz.underlying4 rfl ((B1.below hb).cell 0)) (fun _ _ => rfl)) ?_
        refine And.intro (ob_bin rfl (wt_none rfl) (ev_dep (j := 2) (by kernel_rfl) rfl rfl) (ev_dep (j := 5) (by kernel_rfl) rfl rfl) (fun _ _ _ hx hy => ⟨.bool true, by rw [hx, hy]; exact (bin_eql_bool _ _ _ _ Tryz.underlying4 _).trans (by rw [HE.out]), rfl⟩)) ?_
        refine And.intro (ob_move rfl (wt_none rfl) (ev_dep (j := 6) (by kernel_rfl) rfl rfl) (fun _ _ h => h)) ?_
        refine And.intro (ob_fieldAddr rfl (wt_dep (c := true) (b := true) (g := 7) rfl (by kernel_rfl) rfl rfl rfl (by exact fun _ _ h => h)) (ev_far rfl rfl) (fun _ => by kernel_rfl) (fun _ => rfl)) ?_
        refine And.intro (ob_fieldAddr rfl (wt_dep (c := true) (b := true) (g := 7) rfl (by kernel_rfl) rfl rfl rfl (by exact fun _ _ h => h)) (ev_dep (j := 8) (by kernel_rfl) rfl rfl) (fun _ => by kernel_rfl) (fun _ => rfl)) ?_
        refine And.intro (ob_load rfl (wt_dep (c := true) (b := true) (g := 7) rfl (by kernel_rfl) rfl rfl rfl (by exact fun _ _ h => h)) (ev_dep (j := 9) (by kernel_rfl) rfl rfl) (fun w2 hb => run_load1 Tryz.underlying24 rfl ((B0.below hb).cell 1)) (fun _ _ => rfl)) ?_
        refine And.intro (ob_fieldAddr rfl (wt_dep (c := true) (b := true) (g := 7) rfl (by kernel_rfl) rfl rfl rfl (by exact fun _ _ h => h)) (ev_far rfl rfl) (fun _ => by kernel_rfl) (fun _ => rfl)) ?_
        refine And.intro (ob_fieldAddr rfl (wt_dep (c := true) (b := true) (g := 7) rfl (by kernel_rfl) rfl rfl rfl (by exact fun _ _ h => h)) (ev_dep (j := 11) (by kernel_rfl) rfl rfl) (fun _ => by kernel_rfl) (fun _ => rfl)) ?_
        refine And.intro (ob_load rfl (wt_dep (c := true) (b := true) (g := 7) rfl (by kernel_rfl) rfl rfl rfl (by exact fun _ _ h => h)) (ev_dep (j := 12) (by kernel_rfl) rfl rfl) (fun w2 hb => run_load1 Tryz.underlying24 rfl ((B1.below hb).cell 1)) (fun _ _ => rfl)) ?_
        refine And.intro (ob_call2 rfl Tryz.func108 (by kernel_rfl) (wt_dep (c := true) (b := true) (g := 7) rfl (by kernel_rfl) rfl rfl rfl (by exact fun _ _ h => h)) (ev_dep (j := 10) (by kernel_rfl) rfl rfl) (ev_dep (j := 13) (by kernel_rfl) rfl rfl) (fun w2 u0 u1 hb h0 h1 => by obtain rfl := h0; obtain rfl := h1; exact (limbs_num _ _ (x).num.natAbs (y).num.natAbs false _ (k0s.below hb) (k1s.below hb) HN.out).mono fun e w3 h => RetV.pd h)) ?_
        refine And.intro (ob_pick (b := true) rfl (wt_none rfl) (ev_dep (j := 7) (by kernel_rfl) rfl rfl) (ev_dep (j := 14) (by kernel_rfl) rfl rfl) (fun _ _ h => h)) ?_
        refine And.intro (ob_move rfl (wt_none rfl) (ev_dep (j := 15) (by kernel_rfl) rfl rfl) (fun _ _ h => h)) ?_
        refine And.intro (ob_not (wt_dep (c := false) (b := true) (g := 16) rfl (by kernel_rfl) rfl rfl rfl (by exact fun _ _ h => h)) (fun _ => trivial) rfl) ?_
        refine And.intro (ob_not (wt_dep (c := false) (b := true) (g := 16) rfl (by kernel_rfl) rfl rfl rfl (by exact fun _ _ h => h)) (fun _ => trivial) rfl) ?_
        refine And.intro (ob_not (wt_dep (c := false) (b := true) (g := 16) rfl (by kernel_rfl) rfl rfl rfl (by exact fun _ _ h => h)) (fun _ => trivial) rfl) ?_
        refine And.intro (ob_not (wt_dep (c := false) (b := true) (g := 16) rfl (by kernel_rfl) rfl rfl rfl (by exact fun _ _ h => h)) (fun _ => trivial) rfl) ?_
        refine And.intro (ob_not (wt_dep (c := false) (b := true) (g := 16) rfl (by kernel_rfl) rfl rfl rfl (by exact fun _ _ h => h)) (fun _ => trivial) rfl) ?_
        refine And.intro (ob_pick (b := false) rfl (wt_none rfl) (ev_dep (j := 16) (by kernel_rfl) rfl rfl) (ev_const _) (fun _ _ h => h)) ?_
        refine And.intro (ob_assign rfl (wt_none rfl) (ev_dep (j := 22) (by kernel_rfl) rfl rfl) (fun _ _ h => h)) ?_
        trivial
      case done45 =>
        refine fun w1 hb1 v0 h0 v1 h1 v2 h2 v3 h3 v4 h4 v5 h5 v6 h6 v7 h7 v8 h8 v9 h9 v10 h10 v11 h11 v12 h12 v13 h13 v14 h14 v15 h15 v16 h16 v17 h17 v18 h18 v19 h19 v20 h20 v21 h21 v22 h22 v23 h23 b hbf => ?_
        obtain rfl := h0; obtain rfl := h1; obtain rfl := h2; obtain rfl := h3; obtain rfl := h4; obtain rfl := h5; obtain rfl := h6; obtain rfl := h7; obtain rfl := h8; obtain rfl := h9; obtain rfl := h10; obtain rfl := h11; obtain rfl := h12; obtain rfl := h13; obtain rfl := h14; obtain rfl := h15; obtain rfl := h16; obtain rfl := h22; obtain rfl := h23
        clear h17
        clear h18
        clear h19
        clear h20
        clear h21
        simp only [Act.put, List.setIfInBounds_toArray, List.set_cons_zero, List.set_cons_succ] at hbf
        subst hbf
        replace B0 := B0.below hb1
        replace k0s := k0s.below hb1
        replace k0d := k0d.below hb1
        replace k0z := k0z.below hb1
        replace k0 := k0.below hb1
        replace B1 := B1.below hb1
        replace k1s := k1s.below hb1
        replace k1d := k1d.below hb1
        replace k1z := k1z.below hb1
        replace k1 := k1.below hb1
        replace bb := bb.trans (hb1.mono bb.size)
        have hsz1 := bb.size
        refine ops_done ?_
        go_wp2
        go_ret
        exact ⟨rfl, bb⟩
  · obtain ⟨u0, t0, rfl, s0, r0⟩ := h0
    obtain ⟨A0, c0, rfl, _⟩ := id s0
    obtain ⟨D0, e0, rfl, _⟩ := id r0
    obtain ⟨u1, t1, rfl, s1, r1⟩ := h1
    obtain ⟨A1, c1, rfl, _⟩ := id s1
    obtain ⟨D1, e1, rfl, _⟩ := id r1
    obtain rfl : b = false := by rw [hb, decide_eq_false_iff_not]; exact fun e => hs (by rw [e])
    clear hb
    have HE : Hid ((ngB x.num == ngB y.num) = false) := by show _ = _; rw [beq_eq_false_iff_ne]; exact hs
    clear hs
    go_enter Tryz.func85, Tryz.ntmps85
    go_upto_region 1 with (fail)
    obtain ⟨wx, hwx, bb, B0, B1, hsz⟩ := vars2 w 28 28 #[.bool (ngB (x).num), .slice A0 (digs 4294967296 (x).num.natAbs).length c0, .slice D0 (digs 4294967296 (x).den).length e0] #[.bool (ngB (y).num), .slice A1 (digs 4294967296 (y).num.natAbs).length c1, .slice D1 (digs 4294967296 (y).den).length e1]
    rw [hwx]
    clear hwx
    have k0s := s0.below bb
    have k0d := r0.below bb
    have k0z : IsZ wx (.agg #[.bool (ngB (x).num), .slice A0 (digs 4294967296 (x).num.natAbs).length c0]) (x).num := ⟨_, rfl, k0s⟩
    have k0 : IsQ wx (.agg #[.bool (ngB (x).num), .slice A0 (digs 4294967296 (x).num.natAbs).length c0, .slice D0 (digs 4294967296 (x).den).length e0]) (x) := ⟨_, _, rfl, k0s, k0d⟩
    have k1s := s1.below bb
    have k1d := r1.below bb
    have k1z : IsZ wx (.agg #[.bool (ngB (y).num), .slice A1 (digs 4294967296 (y).num.natAbs).length c1]) (y).num := ⟨_, rfl, k1s⟩
    have k1 : IsQ wx (.agg #[.bool (ngB (y).num), .slice A1 (digs 4294967296 (y).num.natAbs).length c1, .slice D1 (digs 4294967296 (y).den).length e1]) (y) := ⟨_, _, rfl, k1s, k1d⟩
    have hsz0 := bb.size
    have sB := bb.size
    refine flowp 24 [Pd.eq (.pointer (some ⟨w.heap.size, 0, none⟩)), Pd.eq (.pointer (some ⟨w.heap.size, 0, none⟩)), Pd.eq (.bool (ngB (x).num)), Pd.eq (.pointer (some ⟨w.heap.size + 1, 0, none⟩)), Pd.eq (.pointer (some ⟨w.heap.size + 1, 0, none⟩)), Pd.eq (.bool (ngB (y).num)), Pd.eq (.bool false), Pd.eq (.bool false), Pd.any, Pd.any, Pd.any, Pd.any, Pd.any, Pd.any, Pd.any, Pd.eq (.bool false), Pd.eq (.bool false), Pd.any, Pd.any, Pd.any, Pd.any, Pd.any, Pd.eq (.bool false), Pd.eq (.bool false)] (by kernel_rfl) ?ob44 ?done44
    case ob44 =>
      refine And.intro (ob_fieldAddr rfl (wt_none rfl) (ev_far rfl rfl) (fun _ => by kernel_rfl) (fun _ => rfl)) ?_
      refine And.intro (ob_fieldAddr rfl (wt_none rfl) (ev_dep (j := 0) (by kernel_rfl) rfl rfl) (fun _ => by kernel_rfl) (fun _ => rfl)) ?_
      refine And.intro (ob_load rfl (wt_none rfl) (ev_dep (j := 1) (by kernel_rfl) rfl rfl) (fun w2 hb => run_load1 Tryz.underlying4 rfl ((B0.below hb).cell 0)) (fun _ _ => rfl)) ?_
      refine And.intro (ob_fieldAddr rfl (wt_none rfl) (ev_far rfl rfl) (fun _ => by kernel_rfl) (fun _ => rfl)) ?_
      refine And.intro (ob_fieldAddr rfl (wt_none rfl) (ev_dep (j := 3) (by kernel_rfl) rfl rfl) (fun _ => by kernel_rfl) (fun _ => rfl)) ?_
      refine And.intro (ob_load rfl (wt_none rfl) (ev_dep (j := 4) (by kernel_rfl) rfl rfl) (fun w2 hb => run_load1 Tryz.underlying4 rfl ((B1.below hb).cell 0)) (fun _ _ => rfl)) ?_
      refine And.intro (ob_bin rfl (wt_none rfl) (ev_dep (j := 2) (by kernel_rfl) rfl rfl) (ev_dep (j := 5) (by kernel_rfl) rfl rfl) (fun _ _ _ hx hy => ⟨.bool false, by rw [hx, hy]; exact (bin_eql_bool _ _ _ _ Tryz.underlying4 _).trans (by rw [HE.out]), rfl⟩)) ?_
      refine And.intro (ob_move rfl (wt_none rfl) (ev_dep (j := 6) (by kernel_rfl) rfl rfl) (fun _ _ h => h)) ?_
      refine And.intro (ob_not (wt_dep (c := false) (b := true) (g := 7) rfl (by kernel_rfl) rfl rfl rfl (by exact fun _ _ h => h)) (fun _ => trivial) rfl) ?_
      refine And.intro (ob_not (wt_dep (c := false) (b := true) (g := 7) rfl (by kernel_rfl) rfl rfl rfl (by exact fun _ _ h => h)) (fun _ => trivial) rfl) ?_
      refine And.intro (ob_not (wt_dep (c := false) (b := true) (g := 7) rfl (by kernel_rfl) rfl rfl rfl (by exact fun _ _ h => h)) (fun _ => trivial) rfl) ?_
      refine And.intro (ob_not (wt_dep (c := false) (b := true) (g := 7) rfl (by kernel_rfl) rfl rfl rfl (by exact fun _ _ h => h)) (fun _ => trivial) rfl) ?_
      refine And.intro (ob_not (wt_dep (c := false) (b := true) (g := 7) rfl (by kernel_rfl) rfl rfl rfl (by exact fun _ _ h => h)) (fun _ => trivial) rfl) ?_
      refine And.intro (ob_not (wt_dep (c := false) (b := true) (g := 7) rfl (by kernel_rfl) rfl rfl rfl (by exact fun _ _ h => h)) (fun _ => trivial) rfl) ?_
      refine And.intro (ob_not (wt_dep (c := false) (b := true) (g := 7) rfl (by kernel_rfl) rfl rfl rfl (by exact fun _ _ h => h)) (fun _ => trivial) rfl) ?_
      refine And.intro (ob_pick (b := false) rfl (wt_none rfl) (ev_dep (j := 7) (by kernel_rfl) rfl rfl) (ev_const _) (fun _ _ h => h)) ?_
      refine And.intro (ob_move rfl (wt_none rfl) (ev_dep (j := 15) (by kernel_rfl) rfl rfl) (fun _ _ h => h)) ?_
      refine And.intro (ob_not (wt_dep (c := false) (b := true) (g := 16) rfl (by kernel_rfl) rfl rfl rfl (by exact fun _ _ h => h)) (fun _ => trivial) rfl) ?_
      refine And.intro (ob_not (wt_dep (c := false) (b := true) (g := 16) rfl (by kernel_rfl) rfl rfl rfl (by exact fun _ _ h => h)) (fun _ => trivial) rfl) ?_
      refine And.intro (ob_not (wt_dep (c := false) (b := true) (g := 16) rfl (by kernel_rfl) rfl rfl rfl (by exact fun _ _ h => h)) (fun _ => trivial) rfl) ?_
      refine And.intro (ob_not (wt_dep (c := false) (b := true) (g := 16) rfl (by kernel_rfl) rfl rfl rfl (by exact fun _ _ h => h)) (fun _ => trivial) rfl) ?_
      refine And.intro (ob_not (wt_dep (c := false) (b := true) (g := 16) rfl (by kernel_rfl) rfl rfl rfl (by exact fun _ _ h => h)) (fun _ => trivial) rfl) ?_
      refine And.intro (ob_pick (b := false) rfl (wt_none rfl) (ev_dep (j := 16) (by kernel_rfl) rfl rfl) (ev_const _) (fun _ _ h => h)) ?_
      refine And.intro (ob_assign rfl (wt_none rfl) (ev_dep (j := 22) (by kernel_rfl) rfl rfl) (fun _ _ h => h)) ?_
      trivial
    case done44 =>
      refine fun w1 hb1 v0 h0 v1 h1 v2 h2 v3 h3 v4 h4 v5 h5 v6 h6 v7 h7 v8 h8 v9 h9 v10 h10 v11 h11 v12 h12 v13 h13 v14 h14 v15 h15 v16 h16 v17 h17 v18 h18 v19 h19 v20 h20 v21 h21 v22 h22 v23 h23 b hbf => ?_
      obtain rfl := h0; obtain rfl := h1; obtain rfl := h2; obtain rfl := h3; obtain rfl := h4; obtain rfl := h5; obtain rfl := h6; obtain rfl := h7; obtain rfl := h15; obtain rfl := h16; obtain rfl := h22; obtain rfl := h23
      clear h8
      clear h9
      clear h10
      clear h11
      clear h12
      clear h13
      clear h14
      clear h17
      clear h18
      clear h19
      clear h20
      clear h21
      simp only [Act.put, List.setIfInBounds_toArray, List.set_cons_zero, List.set_cons_succ] at hbf
      subst hbf
      replace B0 := B0.below hb1
      replace k0s := k0s.below hb1
      replace k0d := k0d.below hb1
      replace k0z := k0z.below hb1
      replace k0 := k0.below hb1
      replace B1 := B1.below hb1
      replace k1s := k1s.below hb1
      replace k1d := k1d.below hb1
      replace k1z := k1z.below hb1
      replace k1 := k1.below hb1
      replace bb := bb.trans (hb1.mono bb.size)
      have hsz1 := bb.size
      refine ops_done ?_
      go_wp2
      go_ret
      exact ⟨rfl, bb⟩
set_option maxHeartbeats 1600000 in
set_option maxRecDepth 100000 in
theorem one8_any (a0 : Value) (x : Rat) (b : Bool) (w : World) (h0 : IsQ w a0 x) (hb : b = decide (x = ((1 : Int) : Rat))) :
    Calls Tryz.prog 51 #[a0] w (RetV (.bool b) w) := by
  obtain ⟨u0, t0, rfl, s0, r0⟩ := h0
  obtain ⟨A0, c0, rfl, _⟩ := id s0
  obtain ⟨D0, e0, rfl, _⟩ := id r0
  have HB := Lib.hid hb
  clear hb
  go_enter Tryz.func51, Tryz.ntmps51
  go_upto_region 1 with (fail)
  obtain ⟨wx, hwx, bb, B0, hsz⟩ := vars1 w 28 #[.bool (ngB (x).num), .slice A0 (digs 4294967296 (x).num.natAbs).length c0, .slice D0 (digs 4294967296 (x).den).length e0]
  rw [hwx]
  clear hwx
  have k0s := s0.below bb
  have k0d := r0.below bb
  have k0z : IsZ wx (.agg #[.bool (ngB (x).num), .slice A0 (digs 4294967296 (x).num.natAbs).length c0]) (x).num := ⟨_, rfl, k0s⟩
  have k0 : IsQ wx (.agg #[.bool (ngB (x).num), .slice A0 (digs 4294967296 (x).num.natAbs).length c0, .slice D0 (digs 4294967296 (x).den).length e0]) (x) := ⟨_, _, rfl, k0s, k0d⟩
  have hsz0 := bb.size
  have sB := bb.size
  refine flow 4 [Pd.eq (.agg #[.bool (ngB (x).num), .slice A0 (digs 4294967296 (x).num.natAbs).length c0, .slice D0 (digs 4294967296 (x).den).length e0]), pq (((1 : Int) : Rat)) wx.heap.size, Pd.eq (.bool b), Pd.eq (.bool b)] (by kernel_rfl) (by kernel_rfl) ?ob47 ?done47
  case ob47 =>
    refine And.intro (ob_load rfl (wt_none rfl) (ev_far rfl rfl) (fun w2 hb => run_loadAll Tryz.underlying28 rfl (by kernel_rfl) (B0.drew.below hb)) (fun _ _ => rfl)) ?_
    refine And.intro (ob_call1 rfl Tryz.func45 (by kernel_rfl) (wt_none rfl) (ev_const _) (fun w2 u0 hb h0 => by obtain rfl := h0; exact (of8_any 1 _ (by omega) (by omega)).mono fun e w3 h => RetQ.pd h hb.size)) ?_
    refine And.intro (ob_call2 rfl Tryz.func85 (by kernel_rfl) (wt_none rfl) (ev_dep (j := 0) (by kernel_rfl) rfl rfl) (ev_dep (j := 1) (by kernel_rfl) rfl rfl) (fun w2 u0 u1 hb h0 h1 => by obtain rfl := h0; exact (same8_any _ _ x ((1 : Int) : Rat) b _ (k0.drew.below hb) h1.1 HB.out).mono fun e w3 h => RetV.pd h)) ?_
    refine And.intro (ob_assign rfl (wt_none rfl) (ev_dep (j := 2) (by kernel_rfl) rfl rfl) (fun _ _ h => h)) ?_
    trivial
  case done47 =>
    refine fun w1 hb1 v0 h0 v1 h1 v2 h2 v3 h3 b hbf => ?_
    obtain rfl := h0; obtain rfl := h2; obtain rfl := h3
    obtain ⟨q1, f1⟩ := h1
    simp only [Act.put, List.setIfInBounds_toArray, List.set_cons_zero, List.set_cons_succ] at hbf
    subst hbf
    replace B0 := B0.below hb1
    replace k0s := k0s.below hb1
    replace k0d := k0d.below hb1
    replace k0z := k0z.below hb1
    replace k0 := k0.below hb1
    replace bb := bb.trans (hb1.mono bb.size)
    have hsz1 := bb.size
    have s_1 := sB
    refine any_done (by kernel_rfl) ?_
    go_wp2
    go_ret
    exact ⟨rfl, bb⟩
end Go.Proofs.YtlnmoledijlemaaGreat.rat
namespace Go.Proofs.YtlnmoledijlemaaGreat.flow
open Go.RowKit Go.Proofs.YtlnmoledijlemaaGreat.num Go.Proofs.YtlnmoledijlemaaGreat.mem
set_option linter.unusedVariables false
/-- What the chain owes: in each such state it yields a value as told, in every world that holds what was there. -/
def LatesH (P : Program) (ops : Array Oper) (L : List Oper) (Φ : List Pd) (wB w0 : World) (a0 : Act) : List Nat → Prop
  | [] => True
  | q :: qs => (∃ oq, L[q]? = some oq ∧ ∀ ms w1, St L Φ w0 oq ms w1 → ∃ v, YieldsIf P ops (fun w2 => Below wB.heap.size wB w2) oq v (putM a0 L ms) ∧ (ph Φ q).p w1 v) ∧ LatesH P ops L Φ wB w0 a0 qs
theorem LatesH.at_ {P : Program} {ops : Array Oper} {L : List Oper} {Φ : List Pd} {wB w0 : World} {a0 : Act} : ∀ (pre : List Nat) (q : Nat) (rest : List Nat), LatesH P ops L Φ wB w0 a0 (pre ++ q :: rest) → ∃ oq, L[q]? = some oq ∧ ∀ ms w1, St L Φ w0 oq ms w1 → ∃ v, YieldsIf P ops (fun w2 => Below wB.heap.size wB w2) oq v (putM a0 L ms) ∧ (ph Φ q).p w1 v
  | [], q, rest, h => h.1
  | a :: pre, q, rest, h => LatesH.at_ pre q rest h.2
section
variable {P : Program} {ops : Array Oper} {L : List Oper} {Φ : List Pd} {wB w0 : World} {a0 : Act} {o : Oper} {G : Pd} {Q : Exit → Act → World → Prop}
variable {S : World → Prop}
end
end Go.Proofs.YtlnmoledijlemaaGreat.flow
namespace Go.Proofs.YtlnmoledijlemaaGreat.rat
open Go.RowKit Go.Proofs.YtlnmoledijlemaaGreat.num Go.Proofs.YtlnmoledijlemaaGreat.mem Go.Proofs.YtlnmoledijlemaaGreat.nat Go.Proofs.YtlnmoledijlemaaGreat.txt Go.Proofs.YtlnmoledijlemaaGreat.str Go.Proofs.YtlnmoledijlemaaGreat.flow Go.Proofs.YtlnmoledijlemaaGreat.whl
set_option linter.unusedVariables false
theorem cells3_len (p : Elt) : (cells3 p).length = 3 := rfl
theorem flat3_len (ps : List Elt) : (flat3 ps).length = ps.length * 3 := by
  induction ps with
  | nil => rfl
  | cons p ps ih => show (cells3 p ++ flat3 ps).length = _; rw [List.length_append, ih, cells3_len, List.length_cons]; omega
theorem flat3_cons (p : Elt) (ps : List Elt) : flat3 (p :: ps) = cells3 p ++ flat3 ps := rfl
theorem flat3_set : ∀ (ps : List Elt) (i : Nat) (p : Elt), i < ps.length → (flat3 ps).take (i * 3) ++ cells3 p ++ (flat3 ps).drop (i * 3 + 3) = flat3 (ps.set i p)
  | [], i, p, h => by simp at h
  | q :: ps, 0, p, h => by
    rw [List.set_cons_zero, flat3_cons, flat3_cons]
    simp [cells3]
  | q :: ps, i + 1, p, h => by
    have ih := flat3_set ps i p (by simpa using h)
    rw [List.set_cons_succ, flat3_cons, flat3_cons, ← ih, show (i + 1) * 3 = i * 3 + 1 + 1 + 1 from by omega, show i * 3 + 1 + 1 + 1 + 3 = i * 3 + 3 + 1 + 1 + 1 from by omega]
    simp [cells3]
/-- The block holds so many elements; the first ones read as these fractions. -/
def RowN (w : World) (g n : Nat) (qs : List Rat) : Prop := ∃ ps : List Elt, ps.length = n ∧ qs.length ≤ n ∧ Blk w g 28 (flat3 ps).toArray ∧ (∀ p ∈ ps, (∃ A m c, p.2.1 = .slice A m c) ∧ ∃ A m c, p.2.2 = .slice A m c) ∧ ∀ (i : Nat) (q : Rat), qs[i]? = some q → ∃ p, ps[i]? = some p ∧ p.1 = q ∧ IsE .u64 4294967296 w p
theorem RowN.below {w w' : World} {g n : Nat} {qs : List Rat} (h : RowN w g n qs) (hb : Below w.heap.size w w') : RowN w' g n qs := by
  obtain ⟨ps, h1, h2, h3, h4, h5⟩ := h
  refine ⟨ps, h1, h2, h3.below hb, h4, fun i q hq => ?_⟩
  obtain ⟨p, k1, k2, k3⟩ := h5 i q hq
  exact ⟨p, k1, k2, k3.below hb⟩
theorem RowN.drew {w : World} {g n : Nat} {qs : List Rat} (h : RowN w g n qs) : RowN w.drew g n qs := h
theorem RowN.lt {w : World} {g n : Nat} {qs : List Rat} (h : RowN w g n qs) : g < w.heap.size := by
  obtain ⟨ps, _, _, h3, _⟩ := h
  exact h3.lt
theorem RowN.le {w : World} {g n : Nat} {qs : List Rat} (h : RowN w g n qs) : qs.length ≤ n := by
  obtain ⟨ps, _, h2, _⟩ := h
  exact h2
/-- Another variable, without ints, is set. -/
theorem RowN.offb {w w' : World} {g g2 n : Nat} {qs : List Rat} {e : TypeId} {cs : Array Value} (h : RowN w g n qs) (hB : w.heap[g2]? = some (.cells cs e (0, 0))) (hno : ∀ c ∈ cs, ∀ n, c ≠ .int .u64 n) (hg : w.grownBy w' (some g2)) (hne : g ≠ g2) : RowN w' g n qs := by
  obtain ⟨ps, h1, h2, h3, h4, h5⟩ := h
  refine ⟨ps, h1, h2, h3.grown hg hne, h4, fun i q hq => ?_⟩
  obtain ⟨p, k1, k2, k3⟩ := h5 i q hq
  exact ⟨p, k1, k2, Go.Proofs.YtlnmoledijlemaaGreat.flow.off k3.1 hB hno hg, Go.Proofs.YtlnmoledijlemaaGreat.flow.off k3.2 hB hno hg⟩
theorem flat3_mem {ps : List Elt} {c : Value} (h : c ∈ flat3 ps) : ∃ p ∈ ps, c ∈ cells3 p := List.mem_flatMap.1 h
theorem no_ints_flat {k : IntKind} {ps : List Elt} (h4 : ∀ p ∈ ps, (∃ A m c, p.2.1 = .slice A m c) ∧ ∃ A m c, p.2.2 = .slice A m c) : ∀ c ∈ (flat3 ps).toArray, ∀ n, c ≠ .int k n := by
  intro c hc n
  obtain ⟨p, hp, hc⟩ := flat3_mem (List.mem_toArray.1 hc)
  obtain ⟨⟨A, m, d, e1⟩, ⟨A', m', d', e2⟩⟩ := h4 p hp
  simp only [cells3, e1, e2, List.mem_cons, List.not_mem_nil, or_false] at hc
  rcases hc with rfl | rfl | rfl <;> simp
/-- A list of limbs is kept where the row is written. -/
theorem RowN.keep {w w' : World} {g n : Nat} {qs : List Rat} {k : IntKind} {v : Value} {l : List Nat} (h : RowN w g n qs) (hg : w.grownBy w' (some g)) (hs : IsS w k v l) : IsS w' k v l := by
  obtain ⟨ps, _, _, h3, h4, _⟩ := h
  exact Go.Proofs.YtlnmoledijlemaaGreat.flow.off hs h3 (no_ints_flat h4) hg
/-- One of them. -/
theorem RowN.at_ {w : World} {g n i : Nat} {qs : List Rat} {q : Rat} (h : RowN w g n qs) (hq : qs[i]? = some q) : ∃ u t, i < n ∧ w.cell? ⟨g, 0 + i * 3, none⟩ = some (.bool (ngB q.num)) ∧ w.cell? ⟨g, 0 + i * 3 + 1, none⟩ = some u ∧ w.cell? ⟨g, 0 + i * 3 + 2, none⟩ = some t ∧ IsS w .u64 u (digs 4294967296 q.num.natAbs) ∧ IsS w .u64 t (digs 4294967296 q.den) := by
  obtain ⟨ps, h1, h2, h3, h4, h5⟩ := h
  obtain ⟨p, k1, rfl, k3⟩ := h5 i q hq
  obtain ⟨f0, f1, f2⟩ := flat3_at ps i p k1
  have hi := (List.getElem?_eq_some_iff.1 k1).1
  rw [Nat.zero_add]
  refine ⟨p.2.1, p.2.2, by omega, ?_, ?_, ?_, k3.1, k3.2⟩
  · rw [h3.cell, List.getElem?_toArray]; exact f0
  · rw [h3.cell, List.getElem?_toArray]; exact f1
  · rw [h3.cell, List.getElem?_toArray]; exact f2
/-- A full row is a slice of these fractions. -/
theorem RowN.sl {w : World} {g n : Nat} {qs : List Rat} (h : RowN w g n qs) (hn : qs.length = n) (hm : n ≤ 1000000000) : SlF .u64 4294967296 w (.slice (some ⟨g, 0, none⟩) n n) qs := by
  obtain ⟨ps, h1, h2, h3, h4, h5⟩ := h
  have key : ∀ (i : Nat) (p : Elt), ps[i]? = some p → qs[i]? = some p.1 ∧ IsE .u64 4294967296 w p := by
    intro i p hp
    have hi := (List.getElem?_eq_some_iff.1 hp).1
    have hq : qs[i]? = some (qs[i]'(by omega)) := List.getElem?_eq_getElem (by omega)
    obtain ⟨p', k1, k2, k3⟩ := h5 i _ hq
    rw [hp] at k1
    injection k1 with k1
    subst k1
    exact ⟨by rw [hq, k2], k3⟩
  refine ⟨ps, ?_, ⟨some ⟨g, 0, none⟩, n, by rw [h1], by omega, by unfold maxLen; omega, fun i p hp => ⟨g, 0, rfl, ?_⟩⟩, fun p hp => ?_⟩
  · refine List.ext_getElem? fun i => ?_
    rw [List.getElem?_map]
    cases hp : ps[i]? with
    | none =>
      have : ps.length ≤ i := List.getElem?_eq_none_iff.1 hp
      rw [List.getElem?_eq_none (by omega)]; rfl
    | some p => rw [(key i p hp).1]; rfl
  · obtain ⟨f0, f1, f2⟩ := flat3_at ps i p hp
    rw [Nat.zero_add]
    refine ⟨?_, ?_, ?_⟩
    · rw [h3.cell, List.getElem?_toArray]; exact f0
    · rw [h3.cell, List.getElem?_toArray]; exact f1
    · rw [h3.cell, List.getElem?_toArray]; exact f2
  · obtain ⟨i, hi⟩ := List.mem_iff_getElem?.1 hp
    exact (key i p hi).2
/-- A row that 'make' made. -/
theorem rowN_made {w : World} {g n : Nat} (h : Blk w g 28 (flat3 (List.replicate n ((0, .slice none 0 0, .slice none 0 0) : Elt))).toArray) : RowN w g n [] :=
  ⟨_, List.length_replicate, Nat.zero_le _, h, fun p hp => by obtain rfl := (List.mem_replicate.1 hp).2; exact ⟨⟨_, _, _, rfl⟩, ⟨_, _, _, rfl⟩⟩, fun i q hq => by simp at hq⟩
theorem made3 (n : Nat) : (madeCells #[.bool false, .slice none 0 0, .slice none 0 0] (n * 3)).toList = flat3 (List.replicate n ((0, .slice none 0 0, .slice none 0 0) : Elt)) := by
  have key : ∀ n j : Nat, (flat3 (List.replicate n ((0, .slice none 0 0, .slice none 0 0) : Elt)))[j]? = if j < n * 3 then some ((#[.bool false, .slice none 0 0, .slice none 0 0] : Array Value)[j % 3]?.getD undef) else none := by
    intro n
    induction n with
    | zero => intro j; simp [flat3]
    | succ n ih =>
      intro j
      rw [List.replicate_succ, flat3_cons]
      match j with
      | 0 => simp [cells3, ngB]
      | 1 => simp [cells3]; omega
      | 2 => simp [cells3]; omega
      | j + 3 =>
        have e : (cells3 ((0, .slice none 0 0, .slice none 0 0) : Elt) ++ flat3 (List.replicate n ((0, .slice none 0 0, .slice none 0 0) : Elt)))[j + 3]? = (flat3 (List.replicate n ((0, .slice none 0 0, .slice none 0 0) : Elt)))[j]? := by simp [cells3]
        rw [e, ih j]
        have h1 : (j + 3) % 3 = j % 3 := by omega
        rw [h1]
        by_cases h : j < n * 3
        · rw [if_pos h, if_pos (by omega)]
        · rw [if_neg h, if_neg (by omega)]
  apply List.ext_getElem?
  intro j
  rw [key n j]
  have h3 : j % 3 < 3 := Nat.mod_lt _ (by omega)
  by_cases h : j < n * 3
  · rw [if_pos h]
    rcases (by omega : j % 3 = 0 ∨ j % 3 = 1 ∨ j % 3 = 2) with e | e | e <;> simp [madeCells, h, e]
  · rw [if_neg h]
    simp [madeCells, h]
section
variable {P : Program}
theorem run_make_q {w : World} {t : TypeId} (ht : P.underlying t = some (.slice 28)) (hI : ∃ i, P.info? 28 = some i ∧ i.zero = some (.agg #[.bool false, .slice none 0 0, .slice none 0 0]) ∧ i.size = 3 ∧ i.bytes = 56) (n : Nat) (hn : n ≤ 1000000000) :
    ∃ w', (Instr.makeSlice t (.int .i64 (n : Int)) (.int .i64 (n : Int))).run P w = .ok (.slice (some ⟨w.heap.size, 0, none⟩) n n) w' ∧ RowN w' w.heap.size n [] ∧ Below w.heap.size w w' := by
  obtain ⟨i, hi, hz, hs, hb⟩ := hI
  obtain ⟨w', h1, h2, h3⟩ := run_make_full (P := P) w w.heap.size t 28 i _ 3 ht hi hz hs .i64 .i64 n (by rw [hb]; omega) (by unfold maxLen; omega) (Nat.le_refl _)
  refine ⟨w', h1, rowN_made ?_, (Below.refl _ w).grown h3 (Nat.le_refl _) (fun g hg => by cases hg)⟩
  obtain ⟨hl, h2⟩ := h2
  rcases h2 with ⟨h4, _⟩ | ⟨g, cap, cur, h4, _, h5, _, _, h6, h7⟩
  · cases h4
  · injection h4 with h4 _ h8
    injection h4 with h4
    injection h4 with h4 _ _
    subst h4; subst h8
    rw [List.take_of_length_le (by simp [h6])] at h7
    have e : cur = (flat3 (List.replicate n ((0, .slice none 0 0, .slice none 0 0) : Elt))).toArray := by
      rw [← made3]
      rw [show (Value.agg #[.bool false, .slice none 0 0, .slice none 0 0]).cells = #[.bool false, .slice none 0 0, .slice none 0 0] from rfl] at h7
      rw [← h7]
    rw [← e]
    exact h5
theorem wpList_make_q {w : World} {ops : Array Oper} {rest : List Oper} {o : Oper} {a : Act} {Q : Exit → Act → World → Prop} (hgd : o.guard = none) (lo co : Operand) {t : TypeId} (ho : o.op = Op.makeSlice t lo co)
    (ht : P.underlying t = some (.slice 28)) (hI : ∃ i, P.info? 28 = some i ∧ i.zero = some (.agg #[.bool false, .slice none 0 0, .slice none 0 0]) ∧ i.size = 3 ∧ i.bytes = 56) (n : Nat) (hl : a.eval lo = .int .i64 (n : Int)) (hc : a.eval co = .int .i64 (n : Int)) (hn : n ≤ 1000000000)
    (h : ∀ w', RowN w' w.heap.size n [] → Below w.heap.size w w' → wpList P ops Q rest (a.put o.dst (.slice (some ⟨w.heap.size, 0, none⟩) n n)) w') : wpList P ops Q (o :: rest) a w := by
  obtain ⟨w', h1, h2, h3⟩ := run_make_q (P := P) (w := w) ht hI n hn
  refine wpList_plain hgd fun K hK => ?_
  unfold Oper.wp execOp
  simp only [ho, hl, hc, Sem.run_bind, h1, Result.andThen_ok]
  exact hK _ _ (h w' h2 h3)
/-- The row is written at one place. -/
theorem RowN.put {w w' : World} {g n i : Nat} {qs : List Rat} {q : Rat} {u t : Value} (h : RowN w g n qs) (hi : i < n) (hu : IsS w .u64 u (digs 4294967296 q.num.natAbs)) (ht : IsS w .u64 t (digs 4294967296 q.den)) (hg : w.grownBy w' (some g)) (hc : ∀ cs, Blk w g 28 cs → Blk w' g 28 (cs.toList.take (0 + i * 3) ++ [.bool (ngB q.num), u, t] ++ cs.toList.drop (0 + i * 3 + 3)).toArray) : (i = qs.length → RowN w' g n (qs ++ [q])) ∧ (i < qs.length → RowN w' g n (qs.set i q)) := by
  have keep := fun {k v l} => h.keep (k := k) (v := v) (l := l) hg
  obtain ⟨ps, h1, h2, h3, h4, h5⟩ := h
  have hB : Blk w' g 28 (flat3 (ps.set i (q, u, t))).toArray := by
    have h6 := hc _ h3
    rw [Nat.zero_add, List.toList_toArray] at h6
    rw [← flat3_set ps i (q, u, t) (by omega)]
    exact h6
  have hS : ∀ p ∈ ps.set i (q, u, t), (∃ A m c, p.2.1 = .slice A m c) ∧ ∃ A m c, p.2.2 = .slice A m c := by
    intro p hp
    rcases List.mem_or_eq_of_mem_set hp with hp | rfl
    · exact h4 p hp
    · obtain ⟨A, c, e1, _⟩ := hu
      obtain ⟨D, d, e2, _⟩ := ht
      exact ⟨⟨_, _, _, e1⟩, ⟨_, _, _, e2⟩⟩
  have hE : IsE .u64 4294967296 w' ((q, u, t) : Elt) := ⟨keep hu, keep ht⟩
  have old : ∀ (j : Nat) (x : Rat), j ≠ i → qs[j]? = some x → ∃ p, (ps.set i (q, u, t))[j]? = some p ∧ p.1 = x ∧ IsE .u64 4294967296 w' p := by
    intro j x hj hx
    obtain ⟨p, k1, k2, k3⟩ := h5 j x hx
    exact ⟨p, by rw [List.getElem?_set_ne (fun e => hj e.symm)]; exact k1, k2, keep k3.1, keep k3.2⟩
  have new : (ps.set i (q, u, t))[i]? = some ((q, u, t) : Elt) := by rw [List.getElem?_set_self (by omega)]
  constructor
  · intro hiq
    refine ⟨ps.set i (q, u, t), by rw [List.length_set]; exact h1, by simp; omega, hB, hS, fun j x hx => ?_⟩
    by_cases hj : j = i
    · subst hj
      rw [hiq, List.getElem?_concat_length] at hx
      injection hx with hx
      subst hx
      exact ⟨_, new, rfl, hE⟩
    · refine old j x hj ?_
      have hl := (List.getElem?_eq_some_iff.1 hx).1
      rw [List.length_append, List.length_singleton] at hl
      rwa [List.getElem?_append_left (by omega)] at hx
  · intro hiq
    refine ⟨ps.set i (q, u, t), by rw [List.length_set]; exact h1, by simp; omega, hB, hS, fun j x hx => ?_⟩
    by_cases hj : j = i
    · subst hj
      rw [List.getElem?_set_self hiq] at hx
      injection hx with hx
      subst hx
      exact ⟨_, new, rfl, hE⟩
    · rw [List.getElem?_set_ne (fun e => hj e.symm)] at hx
      exact old j x hj hx
theorem grownBy_setRow (w : World) (g : Nat) (cs : Array Value) : w.grownBy (w.setRow g cs) (some g) := ⟨rfl, rfl, rfl, by simp [World.setRow], fun k _ hk => setRow_other w g k cs (fun e => hk (by rw [e]))⟩
theorem wp_store_q {o : Oper} {a : Act} {w : World} {K : Act → World → Prop} {Q : Exit → Act → World → Prop} {ty : TypeId} {x y : Operand} {g n i : Nat} {qs : List Rat} {q : Rat} {u t : Value} (hd : o.dst = none) (hop : o.op = .store ty x y) (hx : a.eval x = .pointer (some ⟨g, 0 + i * 3, none⟩)) (hy : a.eval y = .agg #[.bool (ngB q.num), u, t])
    (hI : (P.info? ty).map (·.size) = some 3) (hR : RowN w g n qs) (hi : i < n) (hu : IsS w .u64 u (digs 4294967296 q.num.natAbs)) (ht : IsS w .u64 t (digs 4294967296 q.den))
    (h : ∀ w', w.grownBy w' (some g) → (i = qs.length → RowN w' g n (qs ++ [q])) ∧ (i < qs.length → RowN w' g n (qs.set i q)) → K a w') : o.wp P a w K Q := by
  obtain ⟨ps, h1, h2, h3, h4, h5⟩ := id hR
  have one : ∀ v ∈ [Value.bool (ngB q.num), u, t], v.oneCell' = true := by
    obtain ⟨A, c, rfl, _⟩ := id hu
    obtain ⟨D, d, rfl, _⟩ := id ht
    exact one3 rfl rfl rfl
  have hrun := run_storeCells_at (P := P) g (0 + i * 3) 28 [Value.bool (ngB q.num), u, t] 0 (flat3 ps).toArray w h3 (by simp [flat3_len]; omega) one
  rw [Nat.add_zero] at hrun
  have key : ∀ (A : Addr) (W : World), (storeCells A [Value.bool (ngB q.num), u, t] 0).run P w = .ok () W → (storeVar ty A (.agg #[.bool (ngB q.num), u, t])).run P w = .ok () W := by
    intro A W hrun
    cases hq : P.info? ty with
    | none => simp [hq] at hI
    | some inf =>
      have hsz : 3 = inf.size := by simp [hq] at hI; omega
      have e : (Value.agg #[.bool (ngB q.num), u, t]).cells = ([Value.bool (ngB q.num), u, t] : List Value).toArray := rfl
      simp [storeVar, sizeOf, typeInfo, hq, e, ← hsz, hrun]
  have hst := key _ _ hrun
  unfold Oper.wp execOp
  simp only [hop, hx, hy, Instr.storeAt, Instr.sureAddr, Sem.run_bind, Sem.run_pure, Result.andThen_ok, hst, Oper.upon_skip, hd]
  refine h _ (grownBy_setRow _ _ _) (hR.put hi hu ht (grownBy_setRow _ _ _) fun cs hcs => ?_)
  unfold Blk at hcs h3 ⊢
  rw [h3] at hcs
  injection hcs with hcs
  injection hcs with hcs
  subst hcs
  exact setRow_heap w g _ _ _ _ h3
theorem ops_store_q {Q : Exit → Act → World → Prop} {ops : Array Oper} {o : Oper} {j : Nat} {rest : List Nat} {a : Act} {w : World} {ty : TypeId} {x y : Operand} {g n i : Nat} {qs : List Rat} {q : Rat} {u t : Value} (ho : ops[j]? = some o) (hgd : o.guard = none) (hd : o.dst = none) (hop : o.op = .store ty x y) (hx : a.eval x = .pointer (some ⟨g, 0 + i * 3, none⟩)) (hy : a.eval y = .agg #[.bool (ngB q.num), u, t])
    (hI : (P.info? ty).map (·.size) = some 3) (hR : RowN w g n qs) (hi : i < n) (hu : IsS w .u64 u (digs 4294967296 q.num.natAbs)) (ht : IsS w .u64 t (digs 4294967296 q.den))
    (h : ∀ w', w.grownBy w' (some g) → (i = qs.length → RowN w' g n (qs ++ [q])) ∧ (i < qs.length → RowN w' g n (qs.set i q)) → wpOps P ops Q rest a w') : wpOps P ops Q (j :: rest) a w :=
  ops_one ho hgd (wp_store_q hd hop hx hy hI hR hi hu ht h)
theorem any_store_q {Q : Exit → Act → World → Prop} {ops : Array Oper} {o : Oper} {fuel j : Nat} {listed : Array Bool} {a : Act} {w : World} {ty : TypeId} {x y : Operand} {g n i : Nat} {qs : List Rat} {q : Rat} {u t : Value} (hr : Region.ready .any ops listed = [j]) (ho : ops[j]? = some o) (hgd : o.guard = none) (hd : o.dst = none) (hop : o.op = .store ty x y) (hx : a.eval x = .pointer (some ⟨g, 0 + i * 3, none⟩)) (hy : a.eval y = .agg #[.bool (ngB q.num), u, t])
    (hI : (P.info? ty).map (·.size) = some 3) (hR : RowN w g n qs) (hi : i < n) (hu : IsS w .u64 u (digs 4294967296 q.num.natAbs)) (ht : IsS w .u64 t (digs 4294967296 q.den))
    (h : ∀ w', w.grownBy w' (some g) → (i = qs.length → RowN w' g n (qs ++ [q])) ∧ (i < qs.length → RowN w' g n (qs.set i q)) → wpAny P .any ops Q fuel (listed.setIfInBounds j true) a w') : wpAny P .any ops Q (fuel + 1) listed a w :=
  any_one hr ho hgd (wp_store_q hd hop hx hy hI hR hi hu ht h)
end
/-! Calls through a function's value. -/
section
variable {P : Program} {Q : Exit → Act → World → Prop} {ops : Array Oper} {L : List Oper} {Φ : List Pd} {w0 : World} {a0 : Act} {i : Nat} {o : Oper}
end
set_option linter.unusedSimpArgs false
/-- The whole numbers 0 and 1 as fractions. -/
theorem RatP_of0 (w : World) : Calls Tryz.prog 45 #[.int .i64 0] w (RetQ (0 : Rat) w) := of8_any 0 w (by omega) (by omega)
theorem RatP_of1 (w : World) : Calls Tryz.prog 45 #[.int .i64 1] w (RetQ (1 : Rat) w) := of8_any 1 w (by omega) (by omega)
set_option maxHeartbeats 3200000 in
set_option maxRecDepth 100000 in
theorem fsum_any (a0 : Value) (qs : List Rat) (m : Nat) (w : World) (h0 : SlF .u64 4294967296 w a0 qs) (hl : (∀ q ∈ qs, lenQ q m) ∧ (m + 1) * qs.length + 1 ≤ 1000) :
    Calls Tryz.prog 12 #[a0] w (RetQn (sumq qs) w) := by
  have sl0 := h0
  obtain ⟨A0, c0, rfl, hc0, hm0⟩ := h0.shape
  unfold maxLen at hm0
  have HLE := Lib.hid hl
  go_enter Tryz.func12, Tryz.ntmps12
  go_upto_region 1 with (fail)
  obtain ⟨wx, hwx, bb, BR0, hsz⟩ := vars1 w 28 #[.bool false, .slice none 0 0, .slice none 0 0]
  rw [hwx]
  clear hwx
  have hsz0 := bb.size
  have sB := bb.size
  have lt0_2 := Blk.lt BR0
  refine flowp 2 [pq ((0 : Rat)) wx.heap.size, pn 28 #[.bool false, .slice none 0 0, .slice none 0 0] wx.heap.size] (by kernel_rfl) ?ob2 ?done2
  case ob2 =>
    refine And.intro (ob_call1 rfl Tryz.func45 (by kernel_rfl) (wt_none rfl) (ev_const _) (fun w2 u0 hb h0 => by obtain rfl := h0; exact (RatP_of0 _).mono fun e w3 h => RetQ.pd h hb.size)) ?_
    refine And.intro (ob_alloc (z := .agg #[.bool false, .slice none 0 0, .slice none 0 0]) rfl rfl (fun _ => by kernel_rfl) (fun _ _ hB h => ⟨_, rfl, hB, h⟩)) ?_
    trivial
  case done2 =>
    refine fun w1 hb1 v0 h0 v1 h1 d1 b hbf => ?_
    obtain ⟨q0, f0⟩ := h0
    obtain ⟨g2_1, rfl, hg1, B1⟩ := h1
    simp only [Act.put, List.setIfInBounds_toArray, List.set_cons_zero, List.set_cons_succ] at hbf
    subst hbf
    replace BR0 := BR0.below hb1
    replace bb := bb.trans (hb1.mono bb.size)
    have hsz1 := bb.size
    have s_0 := sB
    have BA3 := B1
    obtain ⟨u0, t0, rfl, q0, d0⟩ := q0
    obtain ⟨A3, c3, rfl, _⟩ := id q0
    obtain ⟨D3, e3, rfl, _⟩ := id d0
    refine ops_store (i := 2) rfl rfl rfl rfl rfl rfl (cells := [.bool (ngB ((0 : Rat)).num), .slice A3 (digs 4294967296 ((0 : Rat)).num.natAbs).length c3, .slice D3 (digs 4294967296 ((0 : Rat)).den).length e3]) rfl BA3 rfl (by kernel_rfl) (one3 rfl rfl rfl) fun w2 hg2 BN2 => ?_
    replace q0 := off q0 BA3 no_ints3 hg2
    replace d0 := off d0 BA3 no_ints3 hg2
    replace BR0 := BR0.grown hg2 (by omega)
    replace bb := bb.trans ((Below.refl _ _).grown hg2 bb.size (fun g hg => by injection hg with hg; omega))
    have hsz2 := bb.size
    have B3 : Blk w2 (g2_1) _ _ := BN2
    have k3s := q0
    have k3d := d0
    have k3z : IsZ w2 (.agg #[.bool (ngB ((0 : Rat)).num), .slice A3 (digs 4294967296 ((0 : Rat)).num.natAbs).length c3]) (((0 : Rat)).num) := ⟨_, rfl, k3s⟩
    have k3 : IsQ w2 (.agg #[.bool (ngB ((0 : Rat)).num), .slice A3 (digs 4294967296 ((0 : Rat)).num.natAbs).length c3, .slice D3 (digs 4294967296 ((0 : Rat)).den).length e3]) ((0 : Rat)) := ⟨_, _, rfl, k3s, k3d⟩
    refine ops_done ?_
    go_wp2
    go_loopw [9] (fun v9 wr => ∃ k : Nat, k ≤ qs.length ∧ HoldQ wr g2_1 (sumq (qs.take k)) ∧ Blk wr w.heap.size 28 #[.bool false, .slice none 0 0, .slice none 0 0] ∧ Below w.heap.size w wr ∧ g2_1 < wr.heap.size ∧ v9 = .int .i64 (k : Int)) (fun v9 _ => qs.length - (intOf v9).toNat)
    case atStart => exact ⟨0, by omega, ⟨_, _, B3, k3s, k3d⟩, BR0, bb, B3.lt, rfl⟩
    case round =>
      obtain ⟨k, hk, hH, hR, hbw, hGl, rfl⟩ := hrel
      clear B3 k3s k3d k3z k3 BR0 bb
      have BR0 := hR
      have bb := hbw
      obtain ⟨s, hs⟩ : ∃ s, s = sumq (qs.take k) := ⟨_, rfl⟩
      rw [← hs] at hH
      have HS := Lib.hid hs
      clear hs hR hbw
      have ls : lenQ s 1000 := by rw [HS.out]; exact (lenQ_sumq (fun q hq => HLE.out.1 q (List.mem_of_mem_take hq))).mono (by have := HLE.out.2; rw [List.length_take, Nat.min_eq_left hk]; exact Nat.le_trans (Nat.add_le_add_right (Nat.mul_le_mul_left _ hk) _) this)
      obtain ⟨u3, t3, B3, k3s, k3d⟩ := hH
      obtain ⟨A3, c3, rfl, _⟩ := id k3s
      obtain ⟨D3, e3, rfl, _⟩ := id k3d
      have k3z : IsZ wr (.agg #[.bool (ngB (s).num), .slice A3 (digs 4294967296 (s).num.natAbs).length c3]) (s).num := ⟨_, rfl, k3s⟩
      have k3 : IsQ wr (.agg #[.bool (ngB (s).num), .slice A3 (digs 4294967296 (s).num.natAbs).length c3, .slice D3 (digs 4294967296 (s).den).length e3]) (s) := ⟨_, _, rfl, k3s, k3d⟩
      have hszr := bb.size
      by_cases hlt : k < qs.length
      · obtain ⟨q, hq0_⟩ : ∃ q, qs[k]? = some q := ⟨_, List.getElem?_eq_getElem hlt⟩
        obtain ⟨g0_, o0_, ue0, te0, hA0_, _, e00, e01, e02, es0, ed0⟩ := (sl0.below bb).at_ hq0_
        subst hA0_
        have HQ0 := Lib.hid hq0_
        clear hq0_
        obtain ⟨Ae0, ce0, rfl, _⟩ := id es0
        obtain ⟨De0, ee0, rfl, _⟩ := id ed0
        have ke0 : IsQ wr (.agg #[.bool (ngB q.num), .slice Ae0 (digs 4294967296 q.num.natAbs).length ce0, .slice De0 (digs 4294967296 q.den).length ee0]) q := ⟨_, _, rfl, es0, ed0⟩
        have sB := bb.size
        go_upto_region 4 with (fail)
        have lt3_2 := Blk.lt BR0
        have lt3_3 := Blk.lt B3
        refine flowp 3 [Pd.eq (.pointer (some ⟨g0_, o0_ + k * 3, none⟩)), Pd.eq (.agg #[.bool (ngB q.num), .slice Ae0 (digs 4294967296 q.num.natAbs).length ce0, .slice De0 (digs 4294967296 q.den).length ee0]), pn 28 #[.bool false, .slice none 0 0, .slice none 0 0] wr.heap.size] (by kernel_rfl) ?ob3 ?done3
        case ob3 =>
          refine And.intro (ob_indexAddr rfl (wt_none rfl) (ev_far rfl rfl) (ev_far rfl rfl) (fun _ _ _ hx hy => ⟨_, by rw [hx, hy]; exact index3 Tryz.underlying22 (by kernel_rfl) hlt _, rfl⟩)) ?_
          refine And.intro (ob_load rfl (wt_none rfl) (ev_dep (j := 0) (by kernel_rfl) rfl rfl) (fun w2 hb => load3 Tryz.underlying28 rfl (by kernel_rfl) ((hb.cell (World.block_lt_of_cell? wr _ e00)).trans e00) ((hb.cell (World.block_lt_of_cell? wr _ e01)).trans e01) ((hb.cell (World.block_lt_of_cell? wr _ e02)).trans e02)) (fun _ _ => rfl)) ?_
          refine And.intro (ob_alloc (z := .agg #[.bool false, .slice none 0 0, .slice none 0 0]) rfl rfl (fun _ => by kernel_rfl) (fun _ _ hB h => ⟨_, rfl, hB, h⟩)) ?_
          trivial
        case done3 =>
          refine fun w4 hb4 v0 h0 v1 h1 v2 h2 d2 b hbf => ?_
          obtain rfl := h0; obtain rfl := h1
          obtain ⟨g3_2, rfl, hg2, B2⟩ := h2
          simp only [Act.put, List.setIfInBounds_toArray, List.set_cons_zero, List.set_cons_succ] at hbf
          subst hbf
          replace BR0 := BR0.below hb4
          replace B3 := B3.below hb4
          replace k3s := k3s.below hb4
          replace k3d := k3d.below hb4
          replace k3z := k3z.below hb4
          replace k3 := k3.below hb4
          replace es0 := es0.below hb4
          replace ed0 := ed0.below hb4
          replace bb := bb.trans (hb4.mono bb.size)
          have hsz4 := bb.size
          have BA5 := B2
          have q1 := es0
          have d1 := ed0
          refine ops_store (i := 3) rfl rfl rfl rfl rfl rfl (cells := [.bool (ngB (q).num), .slice Ae0 (digs 4294967296 (q).num.natAbs).length ce0, .slice De0 (digs 4294967296 (q).den).length ee0]) rfl BA5 rfl (by kernel_rfl) (one3 rfl rfl rfl) fun w5 hg5 BN5 => ?_
          replace q1 := off q1 BA5 no_ints3 hg5
          replace d1 := off d1 BA5 no_ints3 hg5
          replace BR0 := BR0.grown hg5 (by omega)
          replace k3s := off k3s BA5 no_ints3 hg5
          replace k3d := off k3d BA5 no_ints3 hg5
          replace k3z : IsZ w5 (.agg #[.bool (ngB (s).num), .slice A3 (digs 4294967296 (s).num.natAbs).length c3]) ((s).num) := ⟨_, rfl, k3s⟩
          replace k3 : IsQ w5 (.agg #[.bool (ngB (s).num), .slice A3 (digs 4294967296 (s).num.natAbs).length c3, .slice D3 (digs 4294967296 (s).den).length e3]) (s) := ⟨_, _, rfl, k3s, k3d⟩
          replace B3 := B3.grown hg5 (by omega)
          replace bb := bb.trans ((Below.refl _ _).grown hg5 bb.size (fun g hg => by injection hg with hg; omega))
          have hsz5 := bb.size
          have Be0 : Blk w5 (g3_2) _ _ := BN5
          have ke0s := q1
          have ke0d := d1
          have ke0z : IsZ w5 (.agg #[.bool (ngB (q).num), .slice Ae0 (digs 4294967296 (q).num.natAbs).length ce0]) ((q).num) := ⟨_, rfl, ke0s⟩
          have ke0 : IsQ w5 (.agg #[.bool (ngB (q).num), .slice Ae0 (digs 4294967296 (q).num.natAbs).length ce0, .slice De0 (digs 4294967296 (q).den).length ee0]) (q) := ⟨_, _, rfl, ke0s, ke0d⟩
          refine ops_done ?_
          have lq : lenQ q 1000 := (HLE.out.1 q (List.mem_of_getElem? HQ0.out)).mono (by have := HLE.out.2; have := Nat.le_trans (Nat.le_mul_of_pos_right (m + 1) (show 0 < qs.length by omega)) (Nat.le_of_succ_le this); omega)
          have sB := bb.size
          go_upto_region 5 with (fail)
          refine flowp 3 [Pd.eq (.agg #[.bool (ngB (s).num), .slice A3 (digs 4294967296 (s).num.natAbs).length c3, .slice D3 (digs 4294967296 (s).den).length e3]), Pd.eq (.agg #[.bool (ngB (q).num), .slice Ae0 (digs 4294967296 (q).num.natAbs).length ce0, .slice De0 (digs 4294967296 (q).den).length ee0]), pq ((s + q)) w5.heap.size] (by kernel_rfl) ?ob4 ?done4
          case ob4 =>
            refine And.intro (ob_load rfl (wt_none rfl) (ev_far rfl rfl) (fun w2 hb => run_loadAll Tryz.underlying28 rfl (by kernel_rfl) (B3.below hb)) (fun _ _ => rfl)) ?_
            refine And.intro (ob_load rfl (wt_none rfl) (ev_far rfl rfl) (fun w2 hb => run_loadAll Tryz.underlying28 rfl (by kernel_rfl) (Be0.below hb)) (fun _ _ => rfl)) ?_
            refine And.intro (ob_call2 rfl Tryz.func46 (by kernel_rfl) (wt_none rfl) (ev_dep (j := 0) (by kernel_rfl) rfl rfl) (ev_dep (j := 1) (by kernel_rfl) rfl rfl) (fun w2 u0 u1 hb h0 h1 => by obtain rfl := h0; obtain rfl := h1; exact (add8_any _ s _ q _ (k3.below hb) (ke0.below hb) (ls.mono (by decide)) (lq.mono (by decide))).mono fun e w3 h => RetQ.pd h hb.size)) ?_
            trivial
          case done4 =>
            refine fun w6 hb6 v0 h0 v1 h1 v2 h2 b hbf => ?_
            obtain rfl := h0; obtain rfl := h1
            obtain ⟨q2, f2⟩ := h2
            simp only [Act.put, List.setIfInBounds_toArray, List.set_cons_zero, List.set_cons_succ] at hbf
            subst hbf
            replace BR0 := BR0.below hb6
            replace B3 := B3.below hb6
            replace k3s := k3s.below hb6
            replace k3d := k3d.below hb6
            replace k3z := k3z.below hb6
            replace k3 := k3.below hb6
            replace Be0 := Be0.below hb6
            replace ke0s := ke0s.below hb6
            replace ke0d := ke0d.below hb6
            replace ke0z := ke0z.below hb6
            replace ke0 := ke0.below hb6
            replace bb := bb.trans (hb6.mono bb.size)
            have hsz6 := bb.size
            have s_2 := sB
            obtain ⟨u2, t2, rfl, q2, d2⟩ := q2
            obtain ⟨A4, c4, rfl, _⟩ := id q2
            obtain ⟨D4, e4, rfl, _⟩ := id d2
            refine ops_store (i := 3) rfl rfl rfl rfl rfl rfl (cells := [.bool (ngB ((s + q)).num), .slice A4 (digs 4294967296 ((s + q)).num.natAbs).length c4, .slice D4 (digs 4294967296 ((s + q)).den).length e4]) rfl B3 rfl (by kernel_rfl) (one3 rfl rfl rfl) fun w7 hg7 BN7 => ?_
            replace q2 := off q2 B3 no_ints3 hg7
            replace d2 := off d2 B3 no_ints3 hg7
            replace BR0 := BR0.grown hg7 (by omega)
            replace ke0s := off ke0s B3 no_ints3 hg7
            replace ke0d := off ke0d B3 no_ints3 hg7
            replace ke0z : IsZ w7 (.agg #[.bool (ngB (q).num), .slice Ae0 (digs 4294967296 (q).num.natAbs).length ce0]) ((q).num) := ⟨_, rfl, ke0s⟩
            replace ke0 : IsQ w7 (.agg #[.bool (ngB (q).num), .slice Ae0 (digs 4294967296 (q).num.natAbs).length ce0, .slice De0 (digs 4294967296 (q).den).length ee0]) (q) := ⟨_, _, rfl, ke0s, ke0d⟩
            replace Be0 := Be0.grown hg7 (by omega)
            replace bb := bb.trans ((Below.refl _ _).grown hg7 bb.size (fun g hg => by injection hg with hg; omega))
            have hsz7 := bb.size
            have B4 : Blk w7 (g2_1) _ _ := BN7
            have k4s := q2
            have k4d := d2
            have k4z : IsZ w7 (.agg #[.bool (ngB ((s + q)).num), .slice A4 (digs 4294967296 ((s + q)).num.natAbs).length c4]) (((s + q)).num) := ⟨_, rfl, k4s⟩
            have k4 : IsQ w7 (.agg #[.bool (ngB ((s + q)).num), .slice A4 (digs 4294967296 ((s + q)).num.natAbs).length c4, .slice D4 (digs 4294967296 ((s + q)).den).length e4]) ((s + q)) := ⟨_, _, rfl, k4s, k4d⟩
            refine ops_done ?_
            have HN : Hid (s + q = sumq (qs.take (k + 1))) := by show _ = _; rw [take_snoc HQ0.out, sumq_snoc, HS.out]
            go_wp2
            go_roundw
            case rel => exact ⟨k + 1, by omega, by rw [← HN.out]; exact ⟨_, _, B4, k4s, k4d⟩, BR0, bb, B4.lt, by go_num⟩
            case measure => simp [intOf]; omega
      · have HN : Hid (s = sumq qs) := by show _ = _; rw [HS.out, List.take_of_length_le (by omega)]
        have sB := bb.size
        go_upto_region 7 with (fail)
        refine flowp 1 [Pd.eq (.agg #[.bool (ngB (s).num), .slice A3 (digs 4294967296 (s).num.natAbs).length c3, .slice D3 (digs 4294967296 (s).den).length e3])] (by kernel_rfl) ?ob5 ?done5
        case ob5 =>
          refine And.intro (ob_load rfl (wt_none rfl) (ev_far rfl rfl) (fun w2 hb => run_loadAll Tryz.underlying28 rfl (by kernel_rfl) (B3.below hb)) (fun _ _ => rfl)) ?_
          trivial
        case done5 =>
          refine fun w4 hb4 v0 h0 b hbf => ?_
          obtain rfl := h0
          simp only [Act.put, List.setIfInBounds_toArray, List.set_cons_zero, List.set_cons_succ] at hbf
          subst hbf
          replace BR0 := BR0.below hb4
          replace B3 := B3.below hb4
          replace k3s := k3s.below hb4
          replace k3d := k3d.below hb4
          replace k3z := k3z.below hb4
          replace k3 := k3.below hb4
          replace bb := bb.trans (hb4.mono bb.size)
          have hsz4 := bb.size
          refine ops_store (i := 1) rfl rfl rfl rfl rfl rfl (cells := [.bool (ngB (s).num), .slice A3 (digs 4294967296 (s).num.natAbs).length c3, .slice D3 (digs 4294967296 (s).den).length e3]) rfl BR0 rfl (by kernel_rfl) (one3 rfl rfl rfl) fun w9 hg9 B9 => ?_
          have k9 := off k3s BR0 no_ints3 hg9
          have d9 := off k3d BR0 no_ints3 hg9
          have bb9 := bb.trans ((Below.refl _ _).grown hg9 bb.size (fun g hg => by injection hg with hg; omega))
          obtain ⟨C0, C1, C2, _, _, _⟩ := three B9
          refine ops_done ?_
          go_wp2
          rw [← HN.out]
          exact bodyPost_ret (v := .agg #[.bool (ngB (s).num), .slice A3 (digs 4294967296 (s).num.natAbs).length c3, .slice D3 (digs 4294967296 (s).den).length e3]) (by simp [results, Tryz.results12, go_sem, C0, C1, C2]) rfl ⟨_, rfl, ⟨_, _, rfl, k9, d9⟩, bb9⟩
/-- None below 0, and the sum 1: all from 0 to 1. -/
theorem whole_iff {l : List Rat} (h : ∀ q ∈ l, ¬ q < 0) : wholeQ l ↔ sumq l = 1 := by
  refine ⟨fun h => h.2, fun h1 => ⟨fun q hq => ⟨h q hq, ?_⟩, h1⟩⟩
  have h2 := le_sumq (fun q hq => Rat.not_lt.1 (h q hq)) q hq
  rw [h1] at h2
  exact Rat.not_lt.2 h2
set_option maxHeartbeats 3200000 in
set_option maxRecDepth 100000 in
theorem fwhole_any (a0 : Value) (qs : List Rat) (m : Nat) (b : Bool) (w : World) (h0 : SlF .u64 4294967296 w a0 qs) (hl : (∀ q ∈ qs, lenQ q m) ∧ (m + 1) * qs.length + 1 ≤ 1000) (hb : b = decide (wholeQ qs)) :
    Calls Tryz.prog 17 #[a0] w (RetV (.bool b) w) := by
  have bb : Below w.heap.size w w := Below.refl _ _
  have sl0 := h0
  obtain ⟨A0, c0, rfl, hc0, hm0⟩ := h0.shape
  unfold maxLen at hm0
  have HLE := Lib.hid hl
  have HB := Lib.hid hb
  clear hb
  go_enter Tryz.func17, Tryz.ntmps17
  go_upto_region 1 with (fail)
  have hsz0 := bb.size
  go_wp2
  go_loopw [7] (fun v7 wr => ∃ k : Nat, k ≤ qs.length ∧ Hid (∀ q ∈ qs.take k, ¬ q < 0) ∧ Below w.heap.size w wr ∧ v7 = .int .i64 (k : Int)) (fun v7 _ => qs.length - (intOf v7).toNat)
  case atStart => exact ⟨0, by omega, by show ∀ q ∈ _, _; intro q hq; simp at hq, bb, rfl⟩
  case round =>
    obtain ⟨k, hk, HA, hbw, rfl⟩ := hrel
    clear bb
    have bb := hbw
    clear hbw
    have hszr := bb.size
    by_cases hlt : k < qs.length
    · obtain ⟨q, hq0_⟩ : ∃ q, qs[k]? = some q := ⟨_, List.getElem?_eq_getElem hlt⟩
      obtain ⟨g0_, o0_, ue0, te0, hA0_, _, e00, e01, e02, es0, ed0⟩ := (sl0.below bb).at_ hq0_
      subst hA0_
      have HQ0 := Lib.hid hq0_
      clear hq0_
      obtain ⟨Ae0, ce0, rfl, _⟩ := id es0
      obtain ⟨De0, ee0, rfl, _⟩ := id ed0
      have ke0 : IsQ wr (.agg #[.bool (ngB q.num), .slice Ae0 (digs 4294967296 q.num.natAbs).length ce0, .slice De0 (digs 4294967296 q.den).length ee0]) q := ⟨_, _, rfl, es0, ed0⟩
      have sB := bb.size
      go_upto_region 3 with (fail)
      refine flowp 3 [Pd.eq (.pointer (some ⟨g0_, o0_ + k * 3, none⟩)), Pd.eq (.agg #[.bool (ngB q.num), .slice Ae0 (digs 4294967296 q.num.natAbs).length ce0, .slice De0 (digs 4294967296 q.den).length ee0]), pn 28 #[.bool false, .slice none 0 0, .slice none 0 0] wr.heap.size] (by kernel_rfl) ?ob11 ?done11
      case ob11 =>
        refine And.intro (ob_indexAddr rfl (wt_none rfl) (ev_far rfl rfl) (ev_far rfl rfl) (fun _ _ _ hx hy => ⟨_, by rw [hx, hy]; exact index3 Tryz.underlying22 (by kernel_rfl) hlt _, rfl⟩)) ?_
        refine And.intro (ob_load rfl (wt_none rfl) (ev_dep (j := 0) (by kernel_rfl) rfl rfl) (fun w2 hb => load3 Tryz.underlying28 rfl (by kernel_rfl) ((hb.cell (World.block_lt_of_cell? wr _ e00)).trans e00) ((hb.cell (World.block_lt_of_cell? wr _ e01)).trans e01) ((hb.cell (World.block_lt_of_cell? wr _ e02)).trans e02)) (fun _ _ => rfl)) ?_
        refine And.intro (ob_alloc (z := .agg #[.bool false, .slice none 0 0, .slice none 0 0]) rfl rfl (fun _ => by kernel_rfl) (fun _ _ hB h => ⟨_, rfl, hB, h⟩)) ?_
        trivial
      case done11 =>
        refine fun w2 hb2 v0 h0 v1 h1 v2 h2 d2 b hbf => ?_
        obtain rfl := h0; obtain rfl := h1
        obtain ⟨g11_2, rfl, hg2, B2⟩ := h2
        simp only [Act.put, List.setIfInBounds_toArray, List.set_cons_zero, List.set_cons_succ] at hbf
        subst hbf
        replace es0 := es0.below hb2
        replace ed0 := ed0.below hb2
        replace bb := bb.trans (hb2.mono bb.size)
        have hsz2 := bb.size
        have BA4 := B2
        have q1 := es0
        have d1 := ed0
        refine ops_store (i := 3) rfl rfl rfl rfl rfl rfl (cells := [.bool (ngB (q).num), .slice Ae0 (digs 4294967296 (q).num.natAbs).length ce0, .slice De0 (digs 4294967296 (q).den).length ee0]) rfl BA4 rfl (by kernel_rfl) (one3 rfl rfl rfl) fun w3 hg3 BN3 => ?_
        replace q1 := off q1 BA4 no_ints3 hg3
        replace d1 := off d1 BA4 no_ints3 hg3
        replace bb := bb.trans ((Below.refl _ _).grown hg3 bb.size (fun g hg => by injection hg with hg; omega))
        have hsz3 := bb.size
        have Be0 : Blk w3 (g11_2) _ _ := BN3
        have ke0s := q1
        have ke0d := d1
        have ke0z : IsZ w3 (.agg #[.bool (ngB (q).num), .slice Ae0 (digs 4294967296 (q).num.natAbs).length ce0]) ((q).num) := ⟨_, rfl, ke0s⟩
        have ke0 : IsQ w3 (.agg #[.bool (ngB (q).num), .slice Ae0 (digs 4294967296 (q).num.natAbs).length ce0, .slice De0 (digs 4294967296 (q).den).length ee0]) (q) := ⟨_, _, rfl, ke0s, ke0d⟩
        refine ops_done ?_
        have hmem := List.mem_of_getElem? HQ0.out
        obtain ⟨t, ht⟩ : ∃ t, t = ordz q.num 0 := ⟨_, rfl⟩
        have HT := Lib.hid ht
        by_cases h0 : q < 0
        · have HTB : Hid (decide (t < 0) = true) := decide_eq_true (by rw [ht]; exact ordz_num.2 h0)
          have HW : Hid (b = false) := by show _ = _; rw [HB.out]; exact decide_eq_false (whole_no hmem (.inl h0))
          clear ht h0 hmem
          have sB := bb.size
          go_upto_region 4 with (fail)
          refine flowp 3 [Pd.eq (.agg #[.bool (ngB (q).num), .slice Ae0 (digs 4294967296 (q).num.natAbs).length ce0, .slice De0 (digs 4294967296 (q).den).length ee0]), Pd.eq (.int .i64 t), Pd.eq (.bool true)] (by kernel_rfl) ?ob12 ?done12
          case ob12 =>
            refine And.intro (ob_load rfl (wt_none rfl) (ev_far rfl rfl) (fun w2 hb => run_loadAll Tryz.underlying28 rfl (by kernel_rfl) (Be0.below hb)) (fun _ _ => rfl)) ?_
            refine And.intro (ob_call1 rfl Tryz.func50 (by kernel_rfl) (wt_none rfl) (ev_dep (j := 0) (by kernel_rfl) rfl rfl) (fun w2 u0 hb h0 => by obtain rfl := h0; exact (fsign0_any _ q t _ (ke0.below hb) HT.out).mono fun e w3 h => RetV.pd h)) ?_
            refine And.intro (ob_bin rfl (wt_none rfl) (ev_dep (j := 1) (by kernel_rfl) rfl rfl) (ev_const _) (fun _ _ _ hx hy => ⟨.bool true, by rw [hx, hy, bin_lss_int, HTB.out], rfl⟩)) ?_
            trivial
          case done12 =>
            refine fun w5 hb5 v0 h0 v1 h1 v2 h2 b hbf => ?_
            obtain rfl := h0; obtain rfl := h1; obtain rfl := h2
            simp only [Act.put, List.setIfInBounds_toArray, List.set_cons_zero, List.set_cons_succ] at hbf
            subst hbf
            replace Be0 := Be0.below hb5
            replace ke0s := ke0s.below hb5
            replace ke0d := ke0d.below hb5
            replace ke0z := ke0z.below hb5
            replace ke0 := ke0.below hb5
            replace bb := bb.trans (hb5.mono bb.size)
            have hsz5 := bb.size
            refine ops_done ?_
            go_wp2
            go_ret
            exact ⟨by rw [HW.out]; rfl, bb⟩
        · have HTB : Hid (decide (t < 0) = false) := decide_eq_false (by rw [ht]; exact fun h => h0 (ordz_num.1 h))
          have HA2 : Hid (∀ q ∈ qs.take (k + 1), ¬ q < 0) := by
            show ∀ q ∈ _, _
            rw [take_snoc HQ0.out]
            intro r hr
            rcases List.mem_append.1 hr with hr | hr
            · exact HA.out r hr
            · obtain rfl := List.mem_singleton.1 hr
              exact h0
          clear ht h0 hmem
          have sB := bb.size
          go_upto_region 4 with (fail)
          refine flowp 3 [Pd.eq (.agg #[.bool (ngB (q).num), .slice Ae0 (digs 4294967296 (q).num.natAbs).length ce0, .slice De0 (digs 4294967296 (q).den).length ee0]), Pd.eq (.int .i64 t), Pd.eq (.bool false)] (by kernel_rfl) ?ob13 ?done13
          case ob13 =>
            refine And.intro (ob_load rfl (wt_none rfl) (ev_far rfl rfl) (fun w2 hb => run_loadAll Tryz.underlying28 rfl (by kernel_rfl) (Be0.below hb)) (fun _ _ => rfl)) ?_
            refine And.intro (ob_call1 rfl Tryz.func50 (by kernel_rfl) (wt_none rfl) (ev_dep (j := 0) (by kernel_rfl) rfl rfl) (fun w2 u0 hb h0 => by obtain rfl := h0; exact (fsign0_any _ q t _ (ke0.below hb) HT.out).mono fun e w3 h => RetV.pd h)) ?_
            refine And.intro (ob_bin rfl (wt_none rfl) (ev_dep (j := 1) (by kernel_rfl) rfl rfl) (ev_const _) (fun _ _ _ hx hy => ⟨.bool false, by rw [hx, hy, bin_lss_int, HTB.out], rfl⟩)) ?_
            trivial
          case done13 =>
            refine fun w5 hb5 v0 h0 v1 h1 v2 h2 b hbf => ?_
            obtain rfl := h0; obtain rfl := h1; obtain rfl := h2
            simp only [Act.put, List.setIfInBounds_toArray, List.set_cons_zero, List.set_cons_succ] at hbf
            subst hbf
            replace Be0 := Be0.below hb5
            replace ke0s := ke0s.below hb5
            replace ke0d := ke0d.below hb5
            replace ke0z := ke0z.below hb5
            replace ke0 := ke0.below hb5
            replace bb := bb.trans (hb5.mono bb.size)
            have hsz5 := bb.size
            refine ops_done ?_
            go_wp2
            go_roundw
            case rel => exact ⟨k + 1, by omega, HA2, bb, by go_num⟩
            case measure => simp [intOf]; omega
    · have HAL : Hid (∀ q ∈ qs, ¬ q < 0) := by have := HA.out; rwa [List.take_of_length_le (by omega)] at this
      have HO : Hid (b = decide (sumq qs = 1)) := by
        show _ = _
        rw [HB.out, Bool.eq_iff_iff, decide_eq_true_iff, decide_eq_true_iff]
        exact whole_iff HAL.out
      have k0 := sl0.below bb
      have sB := bb.size
      go_upto_region 7 with (fail)
      refine flowp 4 [Pd.eq (.slice A0 qs.length c0), pqn (sumq qs), Pd.eq (.bool b), Pd.eq (.bool b)] (by kernel_rfl) ?ob14 ?done14
      case ob14 =>
        refine And.intro (ob_move rfl (wt_none rfl) (ev_far rfl rfl) (fun _ _ h => h)) ?_
        refine And.intro (ob_call1 rfl Tryz.func12 (by kernel_rfl) (wt_none rfl) (ev_dep (j := 0) (by kernel_rfl) rfl rfl) (fun w2 u0 hb h0 => by obtain rfl := h0; exact (fsum_any _ qs m _ (k0.below hb) HLE.out).mono fun e w3 h => RetQn.pd h)) ?_
        refine And.intro (ob_call1 rfl Tryz.func51 (by kernel_rfl) (wt_none rfl) (ev_dep (j := 1) (by kernel_rfl) rfl rfl) (fun w2 u0 hb h0 => by exact (one8_any _ (sumq qs) b _ h0 HO.out).mono fun e w3 h => RetV.pd h)) ?_
        refine And.intro (ob_assign rfl (wt_none rfl) (ev_dep (j := 2) (by kernel_rfl) rfl rfl) (fun _ _ h => h)) ?_
        trivial
      case done14 =>
        refine fun w2 hb2 v0 h0 v1 h1 v2 h2 v3 h3 b hbf => ?_
        obtain rfl := h0; obtain rfl := h2; obtain rfl := h3
        have q1 := h1
        simp only [Act.put, List.setIfInBounds_toArray, List.set_cons_zero, List.set_cons_succ] at hbf
        subst hbf
        replace bb := bb.trans (hb2.mono bb.size)
        have hsz2 := bb.size
        refine ops_done ?_
        go_wp2
        go_ret
        exact ⟨rfl, bb⟩
section
variable {P : Program}
theorem bin_quo_two {t : TypeId} (x y : Operand) (a : Nat) (ha : a ≤ 9223372036854775807) (w : World) : (do eqGuard .quo t x y (.int .i64 (a : Int)) (.int .i64 2); binOp .quo t (.int .i64 (a : Int)) (.int .i64 2)).run P w = .ok (.int .i64 ((a / 2 : Nat) : Int)) w := by
  have h0 : (eqGuard .quo t x y (.int .i64 (a : Int)) (.int .i64 2)).run P w = .ok () w := by simp [eqGuard]
  have e1 : ((a : Int)).tdiv 2 = ((a / 2 : Nat) : Int) := by rw [Int.tdiv_eq_ediv_of_nonneg (by omega)]; omega
  have e : IntKind.i64.wrap ((a / 2 : Nat) : Int) = ((a / 2 : Nat) : Int) := by rw [IntKind.wrap_i64]; omega
  rw [Sem.run_bind, h0, Result.andThen_ok]
  simp only [binOp, Op.intDiv]
  rw [if_neg (by decide), e1, e]
  simp [go_sem]
theorem bin_rem_two {t : TypeId} (x y : Operand) (a : Nat) (ha : a ≤ 9223372036854775807) (w : World) : (do eqGuard .rem t x y (.int .i64 (a : Int)) (.int .i64 2); binOp .rem t (.int .i64 (a : Int)) (.int .i64 2)).run P w = .ok (.int .i64 ((a % 2 : Nat) : Int)) w := by
  have h0 : (eqGuard .rem t x y (.int .i64 (a : Int)) (.int .i64 2)).run P w = .ok () w := by simp [eqGuard]
  have e1 : ((a : Int)).tmod 2 = ((a % 2 : Nat) : Int) := by rw [Int.tmod_eq_emod_of_nonneg (by omega)]; omega
  have e : IntKind.i64.wrap ((a % 2 : Nat) : Int) = ((a % 2 : Nat) : Int) := by rw [IntKind.wrap_i64]; omega
  rw [Sem.run_bind, h0, Result.andThen_ok]
  simp only [binOp, Op.intDiv]
  rw [if_neg (by decide), e1]
  simp [go_sem]
end
theorem powq_add (x : Rat) (a : Nat) : ∀ b : Nat, x ^ a * x ^ b = x ^ (a + b)
  | 0 => by rw [Rat.pow_zero, Rat.mul_one, Nat.add_zero]
  | b + 1 => by rw [Rat.pow_succ, ← Rat.mul_assoc, powq_add x a b, ← Nat.add_assoc, Rat.pow_succ]
theorem pow_halves (x : Rat) (d : Nat) : x ^ (d / 2) * x ^ (d / 2) = x ^ (d / 2 + d / 2) := powq_add x _ _
/-- Powers below K, by recursion. -/
def ByR (K : Nat) : Prop := ∀ (a0 : Value) (x : Rat) (n : Int) (d : Nat) (w : World), IsQ w a0 x → n = (d : Int) → d < K → d ≤ 2000 → lenQ x 1 → Calls Tryz.prog 95 #[a0, .int .i64 n] w (RetQn (x ^ d) w)
set_option maxHeartbeats 1600000 in
set_option maxRecDepth 100000 in
theorem raised_zero (a0 : Value) (x : Rat) (n : Int) (d : Nat) (w : World) (h0 : IsQ w a0 x) (hn : n = (d : Int)) (hd0 : d = 0) :
    Calls Tryz.prog 95 #[a0, .int .i64 n] w (RetQn (x ^ d) w) := by
  obtain ⟨u0, t0, rfl, s0, r0⟩ := h0
  obtain ⟨A0, c0, rfl, _⟩ := id s0
  obtain ⟨D0, e0, rfl, _⟩ := id r0
  obtain rfl := hd0
  have HZ : Hid (((0 : Nat) : Int) == 0) := rfl
  subst hn
  have HP : Hid ((1 : Rat) = x ^ 0) := by show _ = _; rw [Rat.pow_zero]
  go_enter Tryz.func95, Tryz.ntmps95
  go_upto_region 1 with (fail)
  obtain ⟨wx, hwx, bb, B0, BR0, hsz⟩ := vars2 w 28 28 #[.bool (ngB (x).num), .slice A0 (digs 4294967296 (x).num.natAbs).length c0, .slice D0 (digs 4294967296 (x).den).length e0] #[.bool false, .slice none 0 0, .slice none 0 0]
  rw [hwx]
  clear hwx
  have k0s := s0.below bb
  have k0d := r0.below bb
  have k0z : IsZ wx (.agg #[.bool (ngB (x).num), .slice A0 (digs 4294967296 (x).num.natAbs).length c0]) (x).num := ⟨_, rfl, k0s⟩
  have k0 : IsQ wx (.agg #[.bool (ngB (x).num), .slice A0 (digs 4294967296 (x).num.natAbs).length c0, .slice D0 (digs 4294967296 (x).den).length e0]) (x) := ⟨_, _, rfl, k0s, k0d⟩
  have hsz0 := bb.size
  have sB := bb.size
  refine flowp 2 [Pd.eq (.int .i64 ((0 : Nat) : Int)), Pd.eq (.bool true)] (by kernel_rfl) ?ob1 ?done1
  case ob1 =>
    refine And.intro (ob_move rfl (wt_none rfl) (ev_far rfl rfl) (fun _ _ h => h)) ?_
    refine And.intro (ob_bin rfl (wt_none rfl) (ev_dep (j := 0) (by kernel_rfl) rfl rfl) (ev_const _) (fun _ _ _ hx hy => ⟨.bool true, by rw [hx, hy, bin_eql_int, HZ.out], rfl⟩)) ?_
    trivial
  case done1 =>
    refine fun w1 hb1 v0 h0 v1 h1 b hbf => ?_
    obtain rfl := h0; obtain rfl := h1
    simp only [Act.put, List.setIfInBounds_toArray, List.set_cons_zero, List.set_cons_succ] at hbf
    subst hbf
    replace B0 := B0.below hb1
    replace k0s := k0s.below hb1
    replace k0d := k0d.below hb1
    replace k0z := k0z.below hb1
    replace k0 := k0.below hb1
    replace BR0 := BR0.below hb1
    replace bb := bb.trans (hb1.mono bb.size)
    have hsz1 := bb.size
    refine ops_done ?_
    have sB := bb.size
    go_upto_region 2 with (fail)
    refine flowp 1 [pq ((1 : Rat)) w1.heap.size] (by kernel_rfl) ?ob2 ?done2
    case ob2 =>
      refine And.intro (ob_call1 rfl Tryz.func45 (by kernel_rfl) (wt_none rfl) (ev_const _) (fun w2 u0 hb h0 => by obtain rfl := h0; exact (RatP_of1 _).mono fun e w3 h => RetQ.pd h hb.size)) ?_
      trivial
    case done2 =>
      refine fun w2 hb2 v0 h0 b hbf => ?_
      obtain ⟨q0, f0⟩ := h0
      simp only [Act.put, List.setIfInBounds_toArray, List.set_cons_zero, List.set_cons_succ] at hbf
      subst hbf
      replace B0 := B0.below hb2
      replace k0s := k0s.below hb2
      replace k0d := k0d.below hb2
      replace k0z := k0z.below hb2
      replace k0 := k0.below hb2
      replace BR0 := BR0.below hb2
      replace bb := bb.trans (hb2.mono bb.size)
      have hsz2 := bb.size
      have s_0 := sB
      obtain ⟨u0, t0, rfl, q0, d0⟩ := q0
      obtain ⟨A9, c9, rfl, _⟩ := id q0
      obtain ⟨D9, e9, rfl, _⟩ := id d0
      refine ops_store (i := 1) rfl rfl rfl rfl rfl rfl (cells := [.bool (ngB ((1 : Rat)).num), .slice A9 (digs 4294967296 ((1 : Rat)).num.natAbs).length c9, .slice D9 (digs 4294967296 ((1 : Rat)).den).length e9]) rfl BR0 rfl (by kernel_rfl) (one3 rfl rfl rfl) fun w9 hg9 B9 => ?_
      have k9 := off q0 BR0 no_ints3 hg9
      have d9 := off d0 BR0 no_ints3 hg9
      have bb9 := bb.trans ((Below.refl _ _).grown hg9 bb.size (fun g hg => by injection hg with hg; omega))
      obtain ⟨C0, C1, C2, _, _, _⟩ := three B9
      refine ops_done ?_
      go_wp2
      rw [← HP.out]
      exact bodyPost_ret (v := .agg #[.bool (ngB ((1 : Rat)).num), .slice A9 (digs 4294967296 ((1 : Rat)).num.natAbs).length c9, .slice D9 (digs 4294967296 ((1 : Rat)).den).length e9]) (by simp [results, Tryz.results95, go_sem, C0, C1, C2]) rfl ⟨_, rfl, ⟨_, _, rfl, k9, d9⟩, bb9⟩
set_option maxHeartbeats 3200000 in
set_option maxRecDepth 100000 in
theorem raised_step (K : Nat) (IH : ByR K) (a0 : Value) (x : Rat) (n : Int) (d : Nat) (w : World) (h0 : IsQ w a0 x) (hn : n = (d : Int)) (hd0 : d ≠ 0) (hd : d < K + 1) (hd2 : d ≤ 2000) (hl : lenQ x 1) :
    Calls Tryz.prog 95 #[a0, .int .i64 n] w (RetQn (x ^ d) w) := by
  obtain ⟨u0, t0, rfl, s0, r0⟩ := h0
  obtain ⟨A0, c0, rfl, _⟩ := id s0
  obtain ⟨D0, e0, rfl, _⟩ := id r0
  have HZ : Hid (((d : Int) == 0) = false) := by show _ = _; rw [beq_eq_false_iff_ne]; omega
  obtain ⟨H, hH⟩ : ∃ H, H = x ^ (d / 2) := ⟨_, rfl⟩
  have lH : lenQ H 2001 := by rw [hH]; exact (lenQ_pow hl (d / 2)).mono (by omega)
  have lHH : lenQ (H * H) 4002 := (lenQ_mul lH lH).mono (by omega)
  have HH : Hid (x ^ (d / 2) = H) := hH.symm
  have HHH : Hid (H * H = x ^ (d / 2 + d / 2)) := by show _ = _; rw [hH]; exact pow_halves x d
  have IHd := Lib.hid IH
  clear IH hH
  have hd0' : 0 < d := by omega
  subst hn
  go_enter Tryz.func95, Tryz.ntmps95
  go_upto_region 1 with (fail)
  obtain ⟨wx, hwx, bb, B0, BR0, hsz⟩ := vars2 w 28 28 #[.bool (ngB (x).num), .slice A0 (digs 4294967296 (x).num.natAbs).length c0, .slice D0 (digs 4294967296 (x).den).length e0] #[.bool false, .slice none 0 0, .slice none 0 0]
  rw [hwx]
  clear hwx
  have k0s := s0.below bb
  have k0d := r0.below bb
  have k0z : IsZ wx (.agg #[.bool (ngB (x).num), .slice A0 (digs 4294967296 (x).num.natAbs).length c0]) (x).num := ⟨_, rfl, k0s⟩
  have k0 : IsQ wx (.agg #[.bool (ngB (x).num), .slice A0 (digs 4294967296 (x).num.natAbs).length c0, .slice D0 (digs 4294967296 (x).den).length e0]) (x) := ⟨_, _, rfl, k0s, k0d⟩
  have hsz0 := bb.size
  have sB := bb.size
  refine flowp 2 [Pd.eq (.int .i64 (d : Int)), Pd.eq (.bool false)] (by kernel_rfl) ?ob3 ?done3
  case ob3 =>
    refine And.intro (ob_move rfl (wt_none rfl) (ev_far rfl rfl) (fun _ _ h => h)) ?_
    refine And.intro (ob_bin rfl (wt_none rfl) (ev_dep (j := 0) (by kernel_rfl) rfl rfl) (ev_const _) (fun _ _ _ hx hy => ⟨.bool false, by rw [hx, hy, bin_eql_int, HZ.out], rfl⟩)) ?_
    trivial
  case done3 =>
    refine fun w1 hb1 v0 h0 v1 h1 b hbf => ?_
    obtain rfl := h0; obtain rfl := h1
    simp only [Act.put, List.setIfInBounds_toArray, List.set_cons_zero, List.set_cons_succ] at hbf
    subst hbf
    replace B0 := B0.below hb1
    replace k0s := k0s.below hb1
    replace k0d := k0d.below hb1
    replace k0z := k0z.below hb1
    replace k0 := k0.below hb1
    replace BR0 := BR0.below hb1
    replace bb := bb.trans (hb1.mono bb.size)
    have hsz1 := bb.size
    refine ops_done ?_
    have sB := bb.size
    go_upto_region 3 with (fail)
    have lt1_2 := Blk.lt B0
    have lt1_4 := Blk.lt BR0
    refine flowp 5 [Pd.eq (.agg #[.bool (ngB (x).num), .slice A0 (digs 4294967296 (x).num.natAbs).length c0, .slice D0 (digs 4294967296 (x).den).length e0]), Pd.eq (.int .i64 (d : Int)), Pd.eq (.int .i64 ((d / 2 : Nat) : Int)), pqn (H), pn 28 #[.bool false, .slice none 0 0, .slice none 0 0] w1.heap.size] (by kernel_rfl) ?ob4 ?done4
    case ob4 =>
      refine And.intro (ob_load rfl (wt_none rfl) (ev_far rfl rfl) (fun w2 hb => run_loadAll Tryz.underlying28 rfl (by kernel_rfl) (B0.below hb)) (fun _ _ => rfl)) ?_
      refine And.intro (ob_move rfl (wt_none rfl) (ev_far rfl rfl) (fun _ _ h => h)) ?_
      refine And.intro (ob_bin rfl (wt_none rfl) (ev_dep (j := 1) (by kernel_rfl) rfl rfl) (ev_const _) (fun _ _ _ hx hy => ⟨_, by rw [hx, hy]; exact bin_quo_two _ _ d (by omega) _, rfl⟩)) ?_
      refine And.intro (ob_call2 rfl Tryz.func95 (by kernel_rfl) (wt_none rfl) (ev_dep (j := 0) (by kernel_rfl) rfl rfl) (ev_dep (j := 2) (by kernel_rfl) rfl rfl) (fun w2 u0 u1 hb h0 h1 => by obtain rfl := h0; obtain rfl := h1; exact (HH.out ▸ IHd.out _ x _ (d / 2) _ (k0.below hb) rfl (by omega) (by omega) hl).mono fun e w3 h => RetQn.pd h)) ?_
      refine And.intro (ob_alloc (z := .agg #[.bool false, .slice none 0 0, .slice none 0 0]) rfl rfl (fun _ => by kernel_rfl) (fun _ _ hB h => ⟨_, rfl, hB, h⟩)) ?_
      trivial
    case done4 =>
      refine fun w2 hb2 v0 h0 v1 h1 v2 h2 v3 h3 v4 h4 d4 b hbf => ?_
      obtain rfl := h0; obtain rfl := h1; obtain rfl := h2
      have q3 := h3
      obtain ⟨g4_4, rfl, hg4, B4⟩ := h4
      simp only [Act.put, List.setIfInBounds_toArray, List.set_cons_zero, List.set_cons_succ] at hbf
      subst hbf
      replace B0 := B0.below hb2
      replace k0s := k0s.below hb2
      replace k0d := k0d.below hb2
      replace k0z := k0z.below hb2
      replace k0 := k0.below hb2
      replace BR0 := BR0.below hb2
      replace bb := bb.trans (hb2.mono bb.size)
      have hsz2 := bb.size
      have BA5 := B4
      obtain ⟨u3, t3, rfl, q3, d3⟩ := q3
      obtain ⟨A5, c5, rfl, _⟩ := id q3
      obtain ⟨D5, e5, rfl, _⟩ := id d3
      refine ops_store (i := 5) rfl rfl rfl rfl rfl rfl (cells := [.bool (ngB (H).num), .slice A5 (digs 4294967296 (H).num.natAbs).length c5, .slice D5 (digs 4294967296 (H).den).length e5]) rfl BA5 rfl (by kernel_rfl) (one3 rfl rfl rfl) fun w3 hg3 BN3 => ?_
      replace q3 := off q3 BA5 no_ints3 hg3
      replace d3 := off d3 BA5 no_ints3 hg3
      replace k0s := off k0s BA5 no_ints3 hg3
      replace k0d := off k0d BA5 no_ints3 hg3
      replace k0z : IsZ w3 (.agg #[.bool (ngB (x).num), .slice A0 (digs 4294967296 (x).num.natAbs).length c0]) ((x).num) := ⟨_, rfl, k0s⟩
      replace k0 : IsQ w3 (.agg #[.bool (ngB (x).num), .slice A0 (digs 4294967296 (x).num.natAbs).length c0, .slice D0 (digs 4294967296 (x).den).length e0]) (x) := ⟨_, _, rfl, k0s, k0d⟩
      replace B0 := B0.grown hg3 (by omega)
      replace BR0 := BR0.grown hg3 (by omega)
      replace bb := bb.trans ((Below.refl _ _).grown hg3 bb.size (fun g hg => by injection hg with hg; omega))
      have hsz3 := bb.size
      have B5 : Blk w3 (g4_4) _ _ := BN3
      have k5s := q3
      have k5d := d3
      have k5z : IsZ w3 (.agg #[.bool (ngB (H).num), .slice A5 (digs 4294967296 (H).num.natAbs).length c5]) ((H).num) := ⟨_, rfl, k5s⟩
      have k5 : IsQ w3 (.agg #[.bool (ngB (H).num), .slice A5 (digs 4294967296 (H).num.natAbs).length c5, .slice D5 (digs 4294967296 (H).den).length e5]) (H) := ⟨_, _, rfl, k5s, k5d⟩
      refine ops_done ?_
      have sB := bb.size
      go_upto_region 4 with (fail)
      have lt3_2 := Blk.lt B0
      have lt3_4 := Blk.lt BR0
      have lt3_5 := Blk.lt B5
      refine flowp 4 [Pd.eq (.agg #[.bool (ngB (H).num), .slice A5 (digs 4294967296 (H).num.natAbs).length c5, .slice D5 (digs 4294967296 (H).den).length e5]), Pd.eq (.agg #[.bool (ngB (H).num), .slice A5 (digs 4294967296 (H).num.natAbs).length c5, .slice D5 (digs 4294967296 (H).den).length e5]), pq ((H * H)) w3.heap.size, pn 28 #[.bool false, .slice none 0 0, .slice none 0 0] w3.heap.size] (by kernel_rfl) ?ob5 ?done5
      case ob5 =>
        refine And.intro (ob_load rfl (wt_none rfl) (ev_far rfl rfl) (fun w2 hb => run_loadAll Tryz.underlying28 rfl (by kernel_rfl) (B5.below hb)) (fun _ _ => rfl)) ?_
        refine And.intro (ob_load rfl (wt_none rfl) (ev_far rfl rfl) (fun w2 hb => run_loadAll Tryz.underlying28 rfl (by kernel_rfl) (B5.below hb)) (fun _ _ => rfl)) ?_
        refine And.intro (ob_call2 rfl Tryz.func49 (by kernel_rfl) (wt_none rfl) (ev_dep (j := 0) (by kernel_rfl) rfl rfl) (ev_dep (j := 1) (by kernel_rfl) rfl rfl) (fun w2 u0 u1 hb h0 h1 => by obtain rfl := h0; obtain rfl := h1; exact (mul8_any _ (H) _ (H) _ (k5.below hb) (k5.below hb) (lH.mono (by decide)) (lH.mono (by decide))).mono fun e w3 h => RetQ.pd h hb.size)) ?_
        refine And.intro (ob_alloc (z := .agg #[.bool false, .slice none 0 0, .slice none 0 0]) rfl rfl (fun _ => by kernel_rfl) (fun _ _ hB h => ⟨_, rfl, hB, h⟩)) ?_
        trivial
      case done5 =>
        refine fun w4 hb4 v0 h0 v1 h1 v2 h2 v3 h3 d3 b hbf => ?_
        obtain rfl := h0; obtain rfl := h1
        obtain ⟨q2, f2⟩ := h2
        obtain ⟨g5_3, rfl, hg3, B3⟩ := h3
        simp only [Act.put, List.setIfInBounds_toArray, List.set_cons_zero, List.set_cons_succ] at hbf
        subst hbf
        replace B0 := B0.below hb4
        replace k0s := k0s.below hb4
        replace k0d := k0d.below hb4
        replace k0z := k0z.below hb4
        replace k0 := k0.below hb4
        replace BR0 := BR0.below hb4
        replace B5 := B5.below hb4
        replace k5s := k5s.below hb4
        replace k5d := k5d.below hb4
        replace k5z := k5z.below hb4
        replace k5 := k5.below hb4
        replace bb := bb.trans (hb4.mono bb.size)
        have hsz4 := bb.size
        have s_2 := sB
        have BA6 := B3
        obtain ⟨u2, t2, rfl, q2, d2⟩ := q2
        obtain ⟨A6, c6, rfl, _⟩ := id q2
        obtain ⟨D6, e6, rfl, _⟩ := id d2
        refine ops_store (i := 4) rfl rfl rfl rfl rfl rfl (cells := [.bool (ngB ((H * H)).num), .slice A6 (digs 4294967296 ((H * H)).num.natAbs).length c6, .slice D6 (digs 4294967296 ((H * H)).den).length e6]) rfl BA6 rfl (by kernel_rfl) (one3 rfl rfl rfl) fun w5 hg5 BN5 => ?_
        replace q2 := off q2 BA6 no_ints3 hg5
        replace d2 := off d2 BA6 no_ints3 hg5
        replace k0s := off k0s BA6 no_ints3 hg5
        replace k0d := off k0d BA6 no_ints3 hg5
        replace k0z : IsZ w5 (.agg #[.bool (ngB (x).num), .slice A0 (digs 4294967296 (x).num.natAbs).length c0]) ((x).num) := ⟨_, rfl, k0s⟩
        replace k0 : IsQ w5 (.agg #[.bool (ngB (x).num), .slice A0 (digs 4294967296 (x).num.natAbs).length c0, .slice D0 (digs 4294967296 (x).den).length e0]) (x) := ⟨_, _, rfl, k0s, k0d⟩
        replace B0 := B0.grown hg5 (by omega)
        replace BR0 := BR0.grown hg5 (by omega)
        replace k5s := off k5s BA6 no_ints3 hg5
        replace k5d := off k5d BA6 no_ints3 hg5
        replace k5z : IsZ w5 (.agg #[.bool (ngB (H).num), .slice A5 (digs 4294967296 (H).num.natAbs).length c5]) ((H).num) := ⟨_, rfl, k5s⟩
        replace k5 : IsQ w5 (.agg #[.bool (ngB (H).num), .slice A5 (digs 4294967296 (H).num.natAbs).length c5, .slice D5 (digs 4294967296 (H).den).length e5]) (H) := ⟨_, _, rfl, k5s, k5d⟩
        replace B5 := B5.grown hg5 (by omega)
        replace bb := bb.trans ((Below.refl _ _).grown hg5 bb.size (fun g hg => by injection hg with hg; omega))
        have hsz5 := bb.size
        have B6 : Blk w5 (g5_3) _ _ := BN5
        have k6s := q2
        have k6d := d2
        have k6z : IsZ w5 (.agg #[.bool (ngB ((H * H)).num), .slice A6 (digs 4294967296 ((H * H)).num.natAbs).length c6]) (((H * H)).num) := ⟨_, rfl, k6s⟩
        have k6 : IsQ w5 (.agg #[.bool (ngB ((H * H)).num), .slice A6 (digs 4294967296 ((H * H)).num.natAbs).length c6, .slice D6 (digs 4294967296 ((H * H)).den).length e6]) ((H * H)) := ⟨_, _, rfl, k6s, k6d⟩
        refine ops_done ?_
        by_cases ho : d % 2 = 1
        · have HO : Hid ((((d % 2 : Nat) : Int) == 1) = true) := by show _ = _; rw [ho]; rfl
          have HE : Hid (H * H * x = x ^ d) := by show _ = _; rw [HHH.out, ← Rat.pow_succ]; congr 1; omega
          clear ho
          have sB := bb.size
          go_upto_region 5 with (fail)
          refine flowp 3 [Pd.eq (.int .i64 (d : Int)), Pd.eq (.int .i64 ((d % 2 : Nat) : Int)), Pd.eq (.bool true)] (by kernel_rfl) ?ob6 ?done6
          case ob6 =>
            refine And.intro (ob_move rfl (wt_none rfl) (ev_far rfl rfl) (fun _ _ h => h)) ?_
            refine And.intro (ob_bin rfl (wt_none rfl) (ev_dep (j := 0) (by kernel_rfl) rfl rfl) (ev_const _) (fun _ _ _ hx hy => ⟨_, by rw [hx, hy]; exact bin_rem_two _ _ d (by omega) _, rfl⟩)) ?_
            refine And.intro (ob_bin rfl (wt_none rfl) (ev_dep (j := 1) (by kernel_rfl) rfl rfl) (ev_const _) (fun _ _ _ hx hy => ⟨.bool true, by rw [hx, hy, bin_eql_int, HO.out], rfl⟩)) ?_
            trivial
          case done6 =>
            refine fun w7 hb7 v0 h0 v1 h1 v2 h2 b hbf => ?_
            obtain rfl := h0; obtain rfl := h1; obtain rfl := h2
            simp only [Act.put, List.setIfInBounds_toArray, List.set_cons_zero, List.set_cons_succ] at hbf
            subst hbf
            replace B0 := B0.below hb7
            replace k0s := k0s.below hb7
            replace k0d := k0d.below hb7
            replace k0z := k0z.below hb7
            replace k0 := k0.below hb7
            replace BR0 := BR0.below hb7
            replace B5 := B5.below hb7
            replace k5s := k5s.below hb7
            replace k5d := k5d.below hb7
            replace k5z := k5z.below hb7
            replace k5 := k5.below hb7
            replace B6 := B6.below hb7
            replace k6s := k6s.below hb7
            replace k6d := k6d.below hb7
            replace k6z := k6z.below hb7
            replace k6 := k6.below hb7
            replace bb := bb.trans (hb7.mono bb.size)
            have hsz7 := bb.size
            refine ops_done ?_
            have sB := bb.size
            go_upto_region 6 with (fail)
            refine flowp 3 [Pd.eq (.agg #[.bool (ngB ((H * H)).num), .slice A6 (digs 4294967296 ((H * H)).num.natAbs).length c6, .slice D6 (digs 4294967296 ((H * H)).den).length e6]), Pd.eq (.agg #[.bool (ngB (x).num), .slice A0 (digs 4294967296 (x).num.natAbs).length c0, .slice D0 (digs 4294967296 (x).den).length e0]), pq ((H * H * x)) w7.heap.size] (by kernel_rfl) ?ob8 ?done8
            case ob8 =>
              refine And.intro (ob_load rfl (wt_none rfl) (ev_far rfl rfl) (fun w2 hb => run_loadAll Tryz.underlying28 rfl (by kernel_rfl) (B6.below hb)) (fun _ _ => rfl)) ?_
              refine And.intro (ob_load rfl (wt_none rfl) (ev_far rfl rfl) (fun w2 hb => run_loadAll Tryz.underlying28 rfl (by kernel_rfl) (B0.below hb)) (fun _ _ => rfl)) ?_
              refine And.intro (ob_call2 rfl Tryz.func49 (by kernel_rfl) (wt_none rfl) (ev_dep (j := 0) (by kernel_rfl) rfl rfl) (ev_dep (j := 1) (by kernel_rfl) rfl rfl) (fun w2 u0 u1 hb h0 h1 => by obtain rfl := h0; obtain rfl := h1; exact (mul8_any _ (H * H) _ (x) _ (k6.below hb) (k0.below hb) (lHH.mono (by decide)) (hl.mono (by decide))).mono fun e w3 h => RetQ.pd h hb.size)) ?_
              trivial
            case done8 =>
              refine fun w8 hb8 v0 h0 v1 h1 v2 h2 b hbf => ?_
              obtain rfl := h0; obtain rfl := h1
              obtain ⟨q2, f2⟩ := h2
              simp only [Act.put, List.setIfInBounds_toArray, List.set_cons_zero, List.set_cons_succ] at hbf
              subst hbf
              replace B0 := B0.below hb8
              replace k0s := k0s.below hb8
              replace k0d := k0d.below hb8
              replace k0z := k0z.below hb8
              replace k0 := k0.below hb8
              replace BR0 := BR0.below hb8
              replace B5 := B5.below hb8
              replace k5s := k5s.below hb8
              replace k5d := k5d.below hb8
              replace k5z := k5z.below hb8
              replace k5 := k5.below hb8
              replace B6 := B6.below hb8
              replace k6s := k6s.below hb8
              replace k6d := k6d.below hb8
              replace k6z := k6z.below hb8
              replace k6 := k6.below hb8
              replace bb := bb.trans (hb8.mono bb.size)
              have hsz8 := bb.size
              have s_2 := sB
              obtain ⟨u2, t2, rfl, q2, d2⟩ := q2
              obtain ⟨A7, c7, rfl, _⟩ := id q2
              obtain ⟨D7, e7, rfl, _⟩ := id d2
              refine ops_store (i := 3) rfl rfl rfl rfl rfl rfl (cells := [.bool (ngB ((H * H * x)).num), .slice A7 (digs 4294967296 ((H * H * x)).num.natAbs).length c7, .slice D7 (digs 4294967296 ((H * H * x)).den).length e7]) rfl B6 rfl (by kernel_rfl) (one3 rfl rfl rfl) fun w9 hg9 BN9 => ?_
              replace q2 := off q2 B6 no_ints3 hg9
              replace d2 := off d2 B6 no_ints3 hg9
              replace k0s := off k0s B6 no_ints3 hg9
              replace k0d := off k0d B6 no_ints3 hg9
              replace k0z : IsZ w9 (.agg #[.bool (ngB (x).num), .slice A0 (digs 4294967296 (x).num.natAbs).length c0]) ((x).num) := ⟨_, rfl, k0s⟩
              replace k0 : IsQ w9 (.agg #[.bool (ngB (x).num), .slice A0 (digs 4294967296 (x).num.natAbs).length c0, .slice D0 (digs 4294967296 (x).den).length e0]) (x) := ⟨_, _, rfl, k0s, k0d⟩
              replace B0 := B0.grown hg9 (by omega)
              replace BR0 := BR0.grown hg9 (by omega)
              replace k5s := off k5s B6 no_ints3 hg9
              replace k5d := off k5d B6 no_ints3 hg9
              replace k5z : IsZ w9 (.agg #[.bool (ngB (H).num), .slice A5 (digs 4294967296 (H).num.natAbs).length c5]) ((H).num) := ⟨_, rfl, k5s⟩
              replace k5 : IsQ w9 (.agg #[.bool (ngB (H).num), .slice A5 (digs 4294967296 (H).num.natAbs).length c5, .slice D5 (digs 4294967296 (H).den).length e5]) (H) := ⟨_, _, rfl, k5s, k5d⟩
              replace B5 := B5.grown hg9 (by omega)
              replace bb := bb.trans ((Below.refl _ _).grown hg9 bb.size (fun g hg => by injection hg with hg; omega))
              have hsz9 := bb.size
              have B7 : Blk w9 (g5_3) _ _ := BN9
              have k7s := q2
              have k7d := d2
              have k7z : IsZ w9 (.agg #[.bool (ngB ((H * H * x)).num), .slice A7 (digs 4294967296 ((H * H * x)).num.natAbs).length c7]) (((H * H * x)).num) := ⟨_, rfl, k7s⟩
              have k7 : IsQ w9 (.agg #[.bool (ngB ((H * H * x)).num), .slice A7 (digs 4294967296 ((H * H * x)).num.natAbs).length c7, .slice D7 (digs 4294967296 ((H * H * x)).den).length e7]) ((H * H * x)) := ⟨_, _, rfl, k7s, k7d⟩
              refine ops_done ?_
              have sB := bb.size
              go_upto_region 7 with (fail)
              refine flowp 1 [Pd.eq (.agg #[.bool (ngB ((H * H * x)).num), .slice A7 (digs 4294967296 ((H * H * x)).num.natAbs).length c7, .slice D7 (digs 4294967296 ((H * H * x)).den).length e7])] (by kernel_rfl) ?ob9 ?done9
              case ob9 =>
                refine And.intro (ob_load rfl (wt_none rfl) (ev_far rfl rfl) (fun w2 hb => run_loadAll Tryz.underlying28 rfl (by kernel_rfl) (B7.below hb)) (fun _ _ => rfl)) ?_
                trivial
              case done9 =>
                refine fun w10 hb10 v0 h0 b hbf => ?_
                obtain rfl := h0
                simp only [Act.put, List.setIfInBounds_toArray, List.set_cons_zero, List.set_cons_succ] at hbf
                subst hbf
                replace B0 := B0.below hb10
                replace k0s := k0s.below hb10
                replace k0d := k0d.below hb10
                replace k0z := k0z.below hb10
                replace k0 := k0.below hb10
                replace BR0 := BR0.below hb10
                replace B5 := B5.below hb10
                replace k5s := k5s.below hb10
                replace k5d := k5d.below hb10
                replace k5z := k5z.below hb10
                replace k5 := k5.below hb10
                replace B7 := B7.below hb10
                replace k7s := k7s.below hb10
                replace k7d := k7d.below hb10
                replace k7z := k7z.below hb10
                replace k7 := k7.below hb10
                replace bb := bb.trans (hb10.mono bb.size)
                have hsz10 := bb.size
                refine ops_store (i := 1) rfl rfl rfl rfl rfl rfl (cells := [.bool (ngB ((H * H * x)).num), .slice A7 (digs 4294967296 ((H * H * x)).num.natAbs).length c7, .slice D7 (digs 4294967296 ((H * H * x)).den).length e7]) rfl BR0 rfl (by kernel_rfl) (one3 rfl rfl rfl) fun w9 hg9 B9 => ?_
                have k9 := off k7s BR0 no_ints3 hg9
                have d9 := off k7d BR0 no_ints3 hg9
                have bb9 := bb.trans ((Below.refl _ _).grown hg9 bb.size (fun g hg => by injection hg with hg; omega))
                obtain ⟨C0, C1, C2, _, _, _⟩ := three B9
                refine ops_done ?_
                go_wp2
                rw [← HE.out]
                exact bodyPost_ret (v := .agg #[.bool (ngB ((H * H * x)).num), .slice A7 (digs 4294967296 ((H * H * x)).num.natAbs).length c7, .slice D7 (digs 4294967296 ((H * H * x)).den).length e7]) (by simp [results, Tryz.results95, go_sem, C0, C1, C2]) rfl ⟨_, rfl, ⟨_, _, rfl, k9, d9⟩, bb9⟩
        · have HO : Hid ((((d % 2 : Nat) : Int) == 1) = false) := by show _ = _; rw [beq_eq_false_iff_ne]; omega
          have HE : Hid (H * H = x ^ d) := by show _ = _; rw [HHH.out]; congr 1; omega
          clear ho
          have sB := bb.size
          go_upto_region 5 with (fail)
          refine flowp 3 [Pd.eq (.int .i64 (d : Int)), Pd.eq (.int .i64 ((d % 2 : Nat) : Int)), Pd.eq (.bool false)] (by kernel_rfl) ?ob7 ?done7
          case ob7 =>
            refine And.intro (ob_move rfl (wt_none rfl) (ev_far rfl rfl) (fun _ _ h => h)) ?_
            refine And.intro (ob_bin rfl (wt_none rfl) (ev_dep (j := 0) (by kernel_rfl) rfl rfl) (ev_const _) (fun _ _ _ hx hy => ⟨_, by rw [hx, hy]; exact bin_rem_two _ _ d (by omega) _, rfl⟩)) ?_
            refine And.intro (ob_bin rfl (wt_none rfl) (ev_dep (j := 1) (by kernel_rfl) rfl rfl) (ev_const _) (fun _ _ _ hx hy => ⟨.bool false, by rw [hx, hy, bin_eql_int, HO.out], rfl⟩)) ?_
            trivial
          case done7 =>
            refine fun w7 hb7 v0 h0 v1 h1 v2 h2 b hbf => ?_
            obtain rfl := h0; obtain rfl := h1; obtain rfl := h2
            simp only [Act.put, List.setIfInBounds_toArray, List.set_cons_zero, List.set_cons_succ] at hbf
            subst hbf
            replace B0 := B0.below hb7
            replace k0s := k0s.below hb7
            replace k0d := k0d.below hb7
            replace k0z := k0z.below hb7
            replace k0 := k0.below hb7
            replace BR0 := BR0.below hb7
            replace B5 := B5.below hb7
            replace k5s := k5s.below hb7
            replace k5d := k5d.below hb7
            replace k5z := k5z.below hb7
            replace k5 := k5.below hb7
            replace B6 := B6.below hb7
            replace k6s := k6s.below hb7
            replace k6d := k6d.below hb7
            replace k6z := k6z.below hb7
            replace k6 := k6.below hb7
            replace bb := bb.trans (hb7.mono bb.size)
            have hsz7 := bb.size
            refine ops_done ?_
            have sB := bb.size
            go_upto_region 7 with (fail)
            refine flowp 1 [Pd.eq (.agg #[.bool (ngB ((H * H)).num), .slice A6 (digs 4294967296 ((H * H)).num.natAbs).length c6, .slice D6 (digs 4294967296 ((H * H)).den).length e6])] (by kernel_rfl) ?ob10 ?done10
            case ob10 =>
              refine And.intro (ob_load rfl (wt_none rfl) (ev_far rfl rfl) (fun w2 hb => run_loadAll Tryz.underlying28 rfl (by kernel_rfl) (B6.below hb)) (fun _ _ => rfl)) ?_
              trivial
            case done10 =>
              refine fun w8 hb8 v0 h0 b hbf => ?_
              obtain rfl := h0
              simp only [Act.put, List.setIfInBounds_toArray, List.set_cons_zero, List.set_cons_succ] at hbf
              subst hbf
              replace B0 := B0.below hb8
              replace k0s := k0s.below hb8
              replace k0d := k0d.below hb8
              replace k0z := k0z.below hb8
              replace k0 := k0.below hb8
              replace BR0 := BR0.below hb8
              replace B5 := B5.below hb8
              replace k5s := k5s.below hb8
              replace k5d := k5d.below hb8
              replace k5z := k5z.below hb8
              replace k5 := k5.below hb8
              replace B6 := B6.below hb8
              replace k6s := k6s.below hb8
              replace k6d := k6d.below hb8
              replace k6z := k6z.below hb8
              replace k6 := k6.below hb8
              replace bb := bb.trans (hb8.mono bb.size)
              have hsz8 := bb.size
              refine ops_store (i := 1) rfl rfl rfl rfl rfl rfl (cells := [.bool (ngB ((H * H)).num), .slice A6 (digs 4294967296 ((H * H)).num.natAbs).length c6, .slice D6 (digs 4294967296 ((H * H)).den).length e6]) rfl BR0 rfl (by kernel_rfl) (one3 rfl rfl rfl) fun w9 hg9 B9 => ?_
              have k9 := off k6s BR0 no_ints3 hg9
              have d9 := off k6d BR0 no_ints3 hg9
              have bb9 := bb.trans ((Below.refl _ _).grown hg9 bb.size (fun g hg => by injection hg with hg; omega))
              obtain ⟨C0, C1, C2, _, _, _⟩ := three B9
              refine ops_done ?_
              go_wp2
              rw [← HE.out]
              exact bodyPost_ret (v := .agg #[.bool (ngB ((H * H)).num), .slice A6 (digs 4294967296 ((H * H)).num.natAbs).length c6, .slice D6 (digs 4294967296 ((H * H)).den).length e6]) (by simp [results, Tryz.results95, go_sem, C0, C1, C2]) rfl ⟨_, rfl, ⟨_, _, rfl, k9, d9⟩, bb9⟩
theorem byR : ∀ K, ByR K
  | 0 => fun _ _ _ _ _ _ _ h => absurd h (by omega)
  | K + 1 => fun a0 x n d w h0 hn hd hd2 hl => by
    by_cases h : d = 0
    · exact raised_zero a0 x n d w h0 hn h
    · exact raised_step K (byR K) a0 x n d w h0 hn h hd hd2 hl
theorem raised_any (a0 : Value) (x : Rat) (n : Int) (d : Nat) (w : World) (h0 : IsQ w a0 x) (hn : n = (d : Int)) (hd : d ≤ 2000) (hl : lenQ x 1) : Calls Tryz.prog 95 #[a0, .int .i64 n] w (RetQn (x ^ d) w) := byR (d + 1) a0 x n d w h0 hn (by omega) hd hl
/-- The first i ones are rising; the first i + 1, but that at j may have greater ones ahead. -/
def Up (ss : List Rat) (i : Nat) : Prop := ∀ (p q : Nat) (x y : Rat), p < q → q < i → ss[p]? = some x → ss[q]? = some y → x ≤ y
/-- A power's parts are its parts' powers. -/
theorem pow_upper (x : Rat) (d : Nat) : (((x.num : Int) : Rat) ^ d).num = (x ^ d).num := by rw [Rat.num_pow, Rat.num_pow, Rat.num_intCast]
theorem pow_lower (x : Rat) (d : Nat) : (((x.den : Nat) : Rat) ^ d).num = (((x ^ d).den : Nat) : Int) := by rw [Rat.num_pow, Rat.den_pow, Rat.num_natCast]; simp
/-- A list that is written from the front, over another one. -/
theorem front_set {a b : List Rat} {k : Nat} {x : Rat} (ha : a[k]? = some x) (hl : a.length = b.length) : (a.take k ++ b.drop k).set k x = a.take (k + 1) ++ b.drop (k + 1) := by
  have hk : k < a.length := (List.getElem?_eq_some_iff.1 ha).1
  have e : (a.take k).length = k := by rw [List.length_take]; omega
  rw [List.set_append_right _ _ (by omega), e, Nat.sub_self, take_snoc ha, List.append_assoc, List.drop_eq_getElem_cons (by omega : k < b.length)]
  rfl
theorem front_at {a b : List Rat} {k : Nat} {y : Rat} (hb : b[k]? = some y) (hl : a.length = b.length) : (a.take k ++ b.drop k)[k]? = some y := by
  have hk : k < b.length := (List.getElem?_eq_some_iff.1 hb).1
  have e : (a.take k).length = k := by rw [List.length_take]; omega
  rw [List.getElem?_append_right (by omega), e, Nat.sub_self, List.getElem?_drop]
  exact hb
theorem front_len (a b : List Rat) (k : Nat) (hl : a.length = b.length) : (a.take k ++ b.drop k).length = b.length := by
  rw [List.length_append, List.length_take, List.length_drop]; omega
set_option maxHeartbeats 3200000 in
set_option maxRecDepth 100000 in
theorem power_any (a0 : Value) (x : Rat) (n : Int) (d : Nat) (w : World) (h0 : IsQ w a0 x) (hn : n = (d : Int)) (hd : d ≤ 2000) (hl : lenQ x 1) :
    Calls Tryz.prog 66 #[a0, .int .i64 n] w (RetQn (x ^ d) w) := by
  obtain ⟨u0, t0, rfl, s0, r0⟩ := h0
  obtain ⟨A0, c0, rfl, _⟩ := id s0
  obtain ⟨D0, e0, rfl, _⟩ := id r0
  obtain ⟨X, hX⟩ : ∃ X, X = ((x.num : Int) : Rat) := ⟨_, rfl⟩
  obtain ⟨Y, hY⟩ : ∃ Y, Y = ((x.den : Nat) : Rat) := ⟨_, rfl⟩
  have HXN : Hid (X.num = x.num) := by show _ = _; rw [hX]; exact Rat.num_intCast _
  have HXD : Hid (X.den = 1) := by show _ = _; rw [hX]; exact Rat.den_intCast _
  have HYN : Hid (Y.num = ((x.den : Nat) : Int)) := by show _ = _; rw [hY]; exact Rat.num_natCast _
  have HYD : Hid (Y.den = 1) := by show _ = _; rw [hY]; exact Rat.den_natCast _
  have l1 : (digs 4294967296 1).length ≤ 1 := digs_len_le (k := 1) (by omega) (by decide +kernel)
  have lX : lenQ X 1 := ⟨by rw [HXN.out]; exact hl.1, by rw [HXD.out]; exact l1⟩
  have lY : lenQ Y 1 := ⟨by rw [HYN.out, lenD]; exact hl.2, by rw [HYD.out]; exact l1⟩
  have HPN : Hid ((X ^ d).num = (x ^ d).num) := by show _ = _; rw [hX]; exact pow_upper x d
  have HPD : Hid ((Y ^ d).num = (((x ^ d).den : Nat) : Int)) := by show _ = _; rw [hY]; exact pow_lower x d
  clear hX hY l1
  subst hn
  go_enter Tryz.func66, Tryz.ntmps66
  go_upto_region 1 with (fail)
  obtain ⟨wx, hwx, bb, B0, BR0, hsz⟩ := vars2 w 28 28 #[.bool (ngB (x).num), .slice A0 (digs 4294967296 (x).num.natAbs).length c0, .slice D0 (digs 4294967296 (x).den).length e0] #[.bool false, .slice none 0 0, .slice none 0 0]
  rw [hwx]
  clear hwx
  have k0s := s0.below bb
  have k0d := r0.below bb
  have k0z : IsZ wx (.agg #[.bool (ngB (x).num), .slice A0 (digs 4294967296 (x).num.natAbs).length c0]) (x).num := ⟨_, rfl, k0s⟩
  have k0 : IsQ wx (.agg #[.bool (ngB (x).num), .slice A0 (digs 4294967296 (x).num.natAbs).length c0, .slice D0 (digs 4294967296 (x).den).length e0]) (x) := ⟨_, _, rfl, k0s, k0d⟩
  have hsz0 := bb.size
  have sB := bb.size
  refine flowp 3 [pq ((1 : Rat)) wx.heap.size, ps .u64 (digs 4294967296 1) wx.heap.size, ps .u64 (digs 4294967296 1) wx.heap.size] (by kernel_rfl) ?ob1 ?done1
  case ob1 =>
    refine And.intro (ob_call1 rfl Tryz.func45 (by kernel_rfl) (wt_none rfl) (ev_const _) (fun w2 u0 hb h0 => by obtain rfl := h0; exact (RatP_of1 _).mono fun e w3 h => RetQ.pd h hb.size)) ?_
    refine And.intro (ob_field rfl (wt_none rfl) (ev_dep (j := 0) (by kernel_rfl) rfl rfl) (fun w2 u hu => by obtain ⟨⟨u', t', rfl, q', r'⟩, f'⟩ := hu; exact ⟨t', by kernel_rfl, r', (f' _ _ _ rfl).2⟩)) ?_
    refine And.intro (ob_assign rfl (wt_none rfl) (ev_dep (j := 1) (by kernel_rfl) rfl rfl) (fun _ _ h => h)) ?_
    trivial
  case done1 =>
    refine fun w1 hb1 v0 h0 v1 h1 v2 h2 b hbf => ?_
    obtain ⟨q0, f0⟩ := h0
    obtain ⟨q1, f1⟩ := h1
    obtain ⟨q2, f2⟩ := h2
    simp only [Act.put, List.setIfInBounds_toArray, List.set_cons_zero, List.set_cons_succ] at hbf
    subst hbf
    replace B0 := B0.below hb1
    replace k0s := k0s.below hb1
    replace k0d := k0d.below hb1
    replace k0z := k0z.below hb1
    replace k0 := k0.below hb1
    replace BR0 := BR0.below hb1
    replace bb := bb.trans (hb1.mono bb.size)
    have hsz1 := bb.size
    have s_0 := sB
    have s_1 := sB
    have s_2 := sB
    refine ops_done ?_
    obtain ⟨A5, c5, rfl, _⟩ := id q2
    have n5 := q2
    have n5f := f2
    have n5z_ := s_2
    have kX : IsQ w1 (.agg #[.bool (ngB x.num), .slice A0 (digs 4294967296 x.num.natAbs).length c0, .slice A5 (digs 4294967296 1).length c5]) X := isQ_mk k0s n5 (by rw [HXN.out]) (by rw [HXN.out]) HXD.out
    have kY : IsQ w1 (.agg #[.bool false, .slice D0 (digs 4294967296 (x).den).length e0, .slice A5 (digs 4294967296 1).length c5]) Y := isQ_mk k0d n5 (by rw [HYN.out]; exact (ngB_of_pos (by omega)).symm) (by rw [HYN.out]; exact Int.natAbs_natCast _) HYD.out
    have sB := bb.size
    go_upto_region 2 with (fail)
    have lt1_2 := Blk.lt B0
    have lt1_4 := Blk.lt BR0
    refine flowp 7 [Pd.eq (.pointer (some ⟨w.heap.size, 0, none⟩)), Pd.eq (.agg #[.bool (ngB (x).num), .slice A0 (digs 4294967296 (x).num.natAbs).length c0]), Pd.eq (.slice A5 (digs 4294967296 1).length c5), Pd.eq (.agg #[.bool (ngB (x).num), .slice A0 (digs 4294967296 (x).num.natAbs).length c0, .slice A5 (digs 4294967296 1).length c5]), Pd.eq (.int .i64 (d : Int)), pqn (X ^ d), pn 28 #[.bool false, .slice none 0 0, .slice none 0 0] w1.heap.size] (by kernel_rfl) ?ob2 ?done2
    case ob2 =>
      refine And.intro (ob_fieldAddr rfl (wt_none rfl) (ev_far rfl rfl) (fun _ => by kernel_rfl) (fun _ => rfl)) ?_
      refine And.intro (ob_load rfl (wt_none rfl) (ev_dep (j := 0) (by kernel_rfl) rfl rfl) (fun w2 hb => run_loadPart Tryz.underlying26 rfl (by kernel_rfl) (B0.below hb) rfl) (fun _ _ => rfl)) ?_
      refine And.intro (ob_move rfl (wt_none rfl) (ev_far rfl rfl) (fun _ _ h => h)) ?_
      refine And.intro (ob_build2b rfl (wt_none rfl) (ev_dep (j := 1) (by kernel_rfl) rfl rfl) (ev_dep (j := 2) (by kernel_rfl) rfl rfl) (fun w2 u v hb hu hv => by obtain rfl := hu; obtain rfl := hv; exact ⟨.agg #[.bool (ngB (x).num), .slice A0 (digs 4294967296 (x).num.natAbs).length c0, .slice A5 (digs 4294967296 1).length c5], by kernel_rfl, rfl⟩)) ?_
      refine And.intro (ob_move rfl (wt_none rfl) (ev_far rfl rfl) (fun _ _ h => h)) ?_
      refine And.intro (ob_call2 rfl Tryz.func95 (by kernel_rfl) (wt_none rfl) (ev_dep (j := 3) (by kernel_rfl) rfl rfl) (ev_dep (j := 4) (by kernel_rfl) rfl rfl) (fun w2 u0 u1 hb h0 h1 => by obtain rfl := h0; obtain rfl := h1; exact (raised_any _ X _ d _ (kX.below hb) rfl hd lX).mono fun e w3 h => RetQn.pd h)) ?_
      refine And.intro (ob_alloc (z := .agg #[.bool false, .slice none 0 0, .slice none 0 0]) rfl rfl (fun _ => by kernel_rfl) (fun _ _ hB h => ⟨_, rfl, hB, h⟩)) ?_
      trivial
    case done2 =>
      refine fun w2 hb2 v0 h0 v1 h1 v2 h2 v3 h3 v4 h4 v5 h5 v6 h6 d6 b hbf => ?_
      obtain rfl := h0; obtain rfl := h1; obtain rfl := h2; obtain rfl := h3; obtain rfl := h4
      have q5 := h5
      obtain ⟨g2_6, rfl, hg6, B6⟩ := h6
      simp only [Act.put, List.setIfInBounds_toArray, List.set_cons_zero, List.set_cons_succ] at hbf
      subst hbf
      replace B0 := B0.below hb2
      replace k0s := k0s.below hb2
      replace k0d := k0d.below hb2
      replace k0z := k0z.below hb2
      replace k0 := k0.below hb2
      replace BR0 := BR0.below hb2
      replace n5 := n5.below hb2
      replace kX := kX.below hb2
      replace kY := kY.below hb2
      replace bb := bb.trans (hb2.mono bb.size)
      have hsz2 := bb.size
      have BA6 := B6
      obtain ⟨u5, t5, rfl, q5, d5⟩ := q5
      obtain ⟨A6, c6, rfl, _⟩ := id q5
      obtain ⟨D6, e6, rfl, _⟩ := id d5
      refine ops_store (i := 7) rfl rfl rfl rfl rfl rfl (cells := [.bool (ngB ((X ^ d)).num), .slice A6 (digs 4294967296 ((X ^ d)).num.natAbs).length c6, .slice D6 (digs 4294967296 ((X ^ d)).den).length e6]) rfl BA6 rfl (by kernel_rfl) (one3 rfl rfl rfl) fun w3 hg3 BN3 => ?_
      replace q5 := off q5 BA6 no_ints3 hg3
      replace d5 := off d5 BA6 no_ints3 hg3
      replace n5 := off n5 BA6 no_ints3 hg3
      replace k0s := off k0s BA6 no_ints3 hg3
      replace k0d := off k0d BA6 no_ints3 hg3
      replace k0z : IsZ w3 (.agg #[.bool (ngB (x).num), .slice A0 (digs 4294967296 (x).num.natAbs).length c0]) ((x).num) := ⟨_, rfl, k0s⟩
      replace k0 : IsQ w3 (.agg #[.bool (ngB (x).num), .slice A0 (digs 4294967296 (x).num.natAbs).length c0, .slice D0 (digs 4294967296 (x).den).length e0]) (x) := ⟨_, _, rfl, k0s, k0d⟩
      replace B0 := B0.grown hg3 (by omega)
      replace BR0 := BR0.grown hg3 (by omega)
      replace bb := bb.trans ((Below.refl _ _).grown hg3 bb.size (fun g hg => by injection hg with hg; omega))
      have hsz3 := bb.size
      have B6 : Blk w3 (g2_6) _ _ := BN3
      have k6s := q5
      have k6d := d5
      have k6z : IsZ w3 (.agg #[.bool (ngB ((X ^ d)).num), .slice A6 (digs 4294967296 ((X ^ d)).num.natAbs).length c6]) (((X ^ d)).num) := ⟨_, rfl, k6s⟩
      have k6 : IsQ w3 (.agg #[.bool (ngB ((X ^ d)).num), .slice A6 (digs 4294967296 ((X ^ d)).num.natAbs).length c6, .slice D6 (digs 4294967296 ((X ^ d)).den).length e6]) ((X ^ d)) := ⟨_, _, rfl, k6s, k6d⟩
      refine ops_done ?_
      have kY : IsQ w3 (.agg #[.bool false, .slice D0 (digs 4294967296 (x).den).length e0, .slice A5 (digs 4294967296 1).length c5]) Y := isQ_mk k0d n5 (by rw [HYN.out]; exact (ngB_of_pos (by omega)).symm) (by rw [HYN.out]; exact Int.natAbs_natCast _) HYD.out
      have sB := bb.size
      go_upto_region 3 with (fail)
      have lt3_2 := Blk.lt B0
      have lt3_4 := Blk.lt BR0
      have lt3_6 := Blk.lt B6
      refine flowp 8 [Pd.eq (.pointer (some ⟨w.heap.size, 2, none⟩)), Pd.eq (.slice D0 (digs 4294967296 (x).den).length e0), Pd.eq (.agg #[.bool false, .slice D0 (digs 4294967296 (x).den).length e0]), Pd.eq (.slice A5 (digs 4294967296 1).length c5), Pd.eq (.agg #[.bool false, .slice D0 (digs 4294967296 (x).den).length e0, .slice A5 (digs 4294967296 1).length c5]), Pd.eq (.int .i64 (d : Int)), pqn (Y ^ d), pn 28 #[.bool false, .slice none 0 0, .slice none 0 0] w3.heap.size] (by kernel_rfl) ?ob3 ?done3
      case ob3 =>
        refine And.intro (ob_fieldAddr rfl (wt_none rfl) (ev_far rfl rfl) (fun _ => by kernel_rfl) (fun _ => rfl)) ?_
        refine And.intro (ob_load rfl (wt_none rfl) (ev_dep (j := 0) (by kernel_rfl) rfl rfl) (fun w2 hb => run_load1 Tryz.underlying24 rfl ((B0.below hb).cell 2)) (fun _ _ => rfl)) ?_
        refine And.intro (ob_build1b rfl (wt_none rfl) (ev_dep (j := 1) (by kernel_rfl) rfl rfl) (fun w2 u hb hu => by obtain rfl := hu; exact ⟨.agg #[.bool false, .slice D0 (digs 4294967296 (x).den).length e0], by kernel_rfl, rfl⟩)) ?_
        refine And.intro (ob_move rfl (wt_none rfl) (ev_far rfl rfl) (fun _ _ h => h)) ?_
        refine And.intro (ob_build2b rfl (wt_none rfl) (ev_dep (j := 2) (by kernel_rfl) rfl rfl) (ev_dep (j := 3) (by kernel_rfl) rfl rfl) (fun w2 u v hb hu hv => by obtain rfl := hu; obtain rfl := hv; exact ⟨.agg #[.bool false, .slice D0 (digs 4294967296 (x).den).length e0, .slice A5 (digs 4294967296 1).length c5], by kernel_rfl, rfl⟩)) ?_
        refine And.intro (ob_move rfl (wt_none rfl) (ev_far rfl rfl) (fun _ _ h => h)) ?_
        refine And.intro (ob_call2 rfl Tryz.func95 (by kernel_rfl) (wt_none rfl) (ev_dep (j := 4) (by kernel_rfl) rfl rfl) (ev_dep (j := 5) (by kernel_rfl) rfl rfl) (fun w2 u0 u1 hb h0 h1 => by obtain rfl := h0; obtain rfl := h1; exact (raised_any _ Y _ d _ (kY.below hb) rfl hd lY).mono fun e w3 h => RetQn.pd h)) ?_
        refine And.intro (ob_alloc (z := .agg #[.bool false, .slice none 0 0, .slice none 0 0]) rfl rfl (fun _ => by kernel_rfl) (fun _ _ hB h => ⟨_, rfl, hB, h⟩)) ?_
        trivial
      case done3 =>
        refine fun w4 hb4 v0 h0 v1 h1 v2 h2 v3 h3 v4 h4 v5 h5 v6 h6 v7 h7 d7 b hbf => ?_
        obtain rfl := h0; obtain rfl := h1; obtain rfl := h2; obtain rfl := h3; obtain rfl := h4; obtain rfl := h5
        have q6 := h6
        obtain ⟨g3_7, rfl, hg7, B7⟩ := h7
        simp only [Act.put, List.setIfInBounds_toArray, List.set_cons_zero, List.set_cons_succ] at hbf
        subst hbf
        replace B0 := B0.below hb4
        replace k0s := k0s.below hb4
        replace k0d := k0d.below hb4
        replace k0z := k0z.below hb4
        replace k0 := k0.below hb4
        replace BR0 := BR0.below hb4
        replace B6 := B6.below hb4
        replace k6s := k6s.below hb4
        replace k6d := k6d.below hb4
        replace k6z := k6z.below hb4
        replace k6 := k6.below hb4
        replace n5 := n5.below hb4
        replace bb := bb.trans (hb4.mono bb.size)
        have hsz4 := bb.size
        have BA7 := B7
        obtain ⟨u6, t6, rfl, q6, d6⟩ := q6
        obtain ⟨A7, c7, rfl, _⟩ := id q6
        obtain ⟨D7, e7, rfl, _⟩ := id d6
        refine ops_store (i := 8) rfl rfl rfl rfl rfl rfl (cells := [.bool (ngB ((Y ^ d)).num), .slice A7 (digs 4294967296 ((Y ^ d)).num.natAbs).length c7, .slice D7 (digs 4294967296 ((Y ^ d)).den).length e7]) rfl BA7 rfl (by kernel_rfl) (one3 rfl rfl rfl) fun w5 hg5 BN5 => ?_
        replace q6 := off q6 BA7 no_ints3 hg5
        replace d6 := off d6 BA7 no_ints3 hg5
        replace n5 := off n5 BA7 no_ints3 hg5
        replace k0s := off k0s BA7 no_ints3 hg5
        replace k0d := off k0d BA7 no_ints3 hg5
        replace k0z : IsZ w5 (.agg #[.bool (ngB (x).num), .slice A0 (digs 4294967296 (x).num.natAbs).length c0]) ((x).num) := ⟨_, rfl, k0s⟩
        replace k0 : IsQ w5 (.agg #[.bool (ngB (x).num), .slice A0 (digs 4294967296 (x).num.natAbs).length c0, .slice D0 (digs 4294967296 (x).den).length e0]) (x) := ⟨_, _, rfl, k0s, k0d⟩
        replace B0 := B0.grown hg5 (by omega)
        replace BR0 := BR0.grown hg5 (by omega)
        replace k6s := off k6s BA7 no_ints3 hg5
        replace k6d := off k6d BA7 no_ints3 hg5
        replace k6z : IsZ w5 (.agg #[.bool (ngB ((X ^ d)).num), .slice A6 (digs 4294967296 ((X ^ d)).num.natAbs).length c6]) (((X ^ d)).num) := ⟨_, rfl, k6s⟩
        replace k6 : IsQ w5 (.agg #[.bool (ngB ((X ^ d)).num), .slice A6 (digs 4294967296 ((X ^ d)).num.natAbs).length c6, .slice D6 (digs 4294967296 ((X ^ d)).den).length e6]) ((X ^ d)) := ⟨_, _, rfl, k6s, k6d⟩
        replace B6 := B6.grown hg5 (by omega)
        replace bb := bb.trans ((Below.refl _ _).grown hg5 bb.size (fun g hg => by injection hg with hg; omega))
        have hsz5 := bb.size
        have B7 : Blk w5 (g3_7) _ _ := BN5
        have k7s := q6
        have k7d := d6
        have k7z : IsZ w5 (.agg #[.bool (ngB ((Y ^ d)).num), .slice A7 (digs 4294967296 ((Y ^ d)).num.natAbs).length c7]) (((Y ^ d)).num) := ⟨_, rfl, k7s⟩
        have k7 : IsQ w5 (.agg #[.bool (ngB ((Y ^ d)).num), .slice A7 (digs 4294967296 ((Y ^ d)).num.natAbs).length c7, .slice D7 (digs 4294967296 ((Y ^ d)).den).length e7]) ((Y ^ d)) := ⟨_, _, rfl, k7s, k7d⟩
        refine ops_done ?_
        have sB := bb.size
        go_upto_region 4 with (fail)
        refine flowp 6 [Pd.eq (.pointer (some ⟨g2_6, 0, none⟩)), Pd.eq (.agg #[.bool (ngB ((X ^ d)).num), .slice A6 (digs 4294967296 ((X ^ d)).num.natAbs).length c6]), Pd.eq (.pointer (some ⟨g3_7, 0, none⟩)), Pd.eq (.pointer (some ⟨g3_7, 1, none⟩)), Pd.eq (.slice A7 (digs 4294967296 ((Y ^ d)).num.natAbs).length c7), Pd.eq (.agg #[.bool (ngB ((X ^ d)).num), .slice A6 (digs 4294967296 ((X ^ d)).num.natAbs).length c6, .slice A7 (digs 4294967296 ((Y ^ d)).num.natAbs).length c7])] (by kernel_rfl) ?ob4 ?done4
        case ob4 =>
          refine And.intro (ob_fieldAddr rfl (wt_none rfl) (ev_far rfl rfl) (fun _ => by kernel_rfl) (fun _ => rfl)) ?_
          refine And.intro (ob_load rfl (wt_none rfl) (ev_dep (j := 0) (by kernel_rfl) rfl rfl) (fun w2 hb => run_loadPart Tryz.underlying26 rfl (by kernel_rfl) (B6.below hb) rfl) (fun _ _ => rfl)) ?_
          refine And.intro (ob_fieldAddr rfl (wt_none rfl) (ev_far rfl rfl) (fun _ => by kernel_rfl) (fun _ => rfl)) ?_
          refine And.intro (ob_fieldAddr rfl (wt_none rfl) (ev_dep (j := 2) (by kernel_rfl) rfl rfl) (fun _ => by kernel_rfl) (fun _ => rfl)) ?_
          refine And.intro (ob_load rfl (wt_none rfl) (ev_dep (j := 3) (by kernel_rfl) rfl rfl) (fun w2 hb => run_load1 Tryz.underlying24 rfl ((B7.below hb).cell 1)) (fun _ _ => rfl)) ?_
          refine And.intro (ob_build2b rfl (wt_none rfl) (ev_dep (j := 1) (by kernel_rfl) rfl rfl) (ev_dep (j := 4) (by kernel_rfl) rfl rfl) (fun w2 u v hb hu hv => by obtain rfl := hu; obtain rfl := hv; exact ⟨.agg #[.bool (ngB ((X ^ d)).num), .slice A6 (digs 4294967296 ((X ^ d)).num.natAbs).length c6, .slice A7 (digs 4294967296 ((Y ^ d)).num.natAbs).length c7], by kernel_rfl, rfl⟩)) ?_
          trivial
        case done4 =>
          refine fun w6 hb6 v0 h0 v1 h1 v2 h2 v3 h3 v4 h4 v5 h5 b hbf => ?_
          obtain rfl := h0; obtain rfl := h1; obtain rfl := h2; obtain rfl := h3; obtain rfl := h4; obtain rfl := h5
          simp only [Act.put, List.setIfInBounds_toArray, List.set_cons_zero, List.set_cons_succ] at hbf
          subst hbf
          replace B0 := B0.below hb6
          replace k0s := k0s.below hb6
          replace k0d := k0d.below hb6
          replace k0z := k0z.below hb6
          replace k0 := k0.below hb6
          replace BR0 := BR0.below hb6
          replace B6 := B6.below hb6
          replace k6s := k6s.below hb6
          replace k6d := k6d.below hb6
          replace k6z := k6z.below hb6
          replace k6 := k6.below hb6
          replace B7 := B7.below hb6
          replace k7s := k7s.below hb6
          replace k7d := k7d.below hb6
          replace k7z := k7z.below hb6
          replace k7 := k7.below hb6
          replace n5 := n5.below hb6
          replace bb := bb.trans (hb6.mono bb.size)
          have hsz6 := bb.size
          refine ops_store (i := 6) rfl rfl rfl rfl rfl rfl (cells := [.bool (ngB ((X ^ d)).num), .slice A6 (digs 4294967296 ((X ^ d)).num.natAbs).length c6, .slice A7 (digs 4294967296 ((Y ^ d)).num.natAbs).length c7]) rfl BR0 rfl (by kernel_rfl) (one3 rfl rfl rfl) fun w9 hg9 B9 => ?_
          have k9 := off k6s BR0 no_ints3 hg9
          have d9 := off k7s BR0 no_ints3 hg9
          have bb9 := bb.trans ((Below.refl _ _).grown hg9 bb.size (fun g hg => by injection hg with hg; omega))
          obtain ⟨C0, C1, C2, _, _, _⟩ := three B9
          refine ops_done ?_
          go_wp2
          exact bodyPost_ret (v := .agg #[.bool (ngB ((X ^ d)).num), .slice A6 (digs 4294967296 ((X ^ d)).num.natAbs).length c6, .slice A7 (digs 4294967296 ((Y ^ d)).num.natAbs).length c7]) (by simp [results, Tryz.results66, go_sem, C0, C1, C2]) rfl ⟨_, rfl, isQ_mk k9 d9 (by rw [HPN.out]) (by rw [HPN.out]) (by rw [HPD.out]; exact (Int.natAbs_natCast _).symm), bb9⟩
set_option maxHeartbeats 1600000 in
set_option maxRecDepth 100000 in
theorem fpow_arg (a0 : Value) (x : Rat) (n : Int) (w : World) (h0 : IsQ w a0 x) (hn : n < -2000 ∨ 2000 < n) :
    Calls Tryz.prog 32 #[a0, .int .i64 n] w (RetQN 2 w) := by
  by_cases hlo : n < -2000
  · obtain ⟨u0, t0, rfl, s0, r0⟩ := h0
    obtain ⟨A0, c0, rfl, _⟩ := id s0
    obtain ⟨D0, e0, rfl, _⟩ := id r0
    have HL : Hid (decide (n < -2000) = true) := decide_eq_true hlo
    clear hn hlo
    go_enter Tryz.func32, Tryz.ntmps32
    go_upto_region 1 with (fail)
    obtain ⟨wx, hwx, bb, B0, BR0, hsz⟩ := vars2 w 28 28 #[.bool (ngB (x).num), .slice A0 (digs 4294967296 (x).num.natAbs).length c0, .slice D0 (digs 4294967296 (x).den).length e0] #[.bool false, .slice none 0 0, .slice none 0 0]
    rw [hwx]
    clear hwx
    have k0s := s0.below bb
    have k0d := r0.below bb
    have k0z : IsZ wx (.agg #[.bool (ngB (x).num), .slice A0 (digs 4294967296 (x).num.natAbs).length c0]) (x).num := ⟨_, rfl, k0s⟩
    have k0 : IsQ wx (.agg #[.bool (ngB (x).num), .slice A0 (digs 4294967296 (x).num.natAbs).length c0, .slice D0 (digs 4294967296 (x).den).length e0]) (x) := ⟨_, _, rfl, k0s, k0d⟩
    have hsz0 := bb.size
    have sB := bb.size
    refine flowp 6 [Pd.eq (.int .i64 n), Pd.eq (.bool true), Pd.eq (.bool true), Pd.any, Pd.any, Pd.eq (.bool true)] (by kernel_rfl) ?ob5 ?done5
    case ob5 =>
      refine And.intro (ob_move rfl (wt_none rfl) (ev_far rfl rfl) (fun _ _ h => h)) ?_
      refine And.intro (ob_bin rfl (wt_none rfl) (ev_dep (j := 0) (by kernel_rfl) rfl rfl) (ev_const _) (fun _ _ _ hx hy => ⟨.bool true, by rw [hx, hy, bin_lss_int, HL.out], rfl⟩)) ?_
      refine And.intro (ob_move rfl (wt_none rfl) (ev_dep (j := 1) (by kernel_rfl) rfl rfl) (fun _ _ h => h)) ?_
      refine And.intro (ob_not (wt_dep (c := true) (b := false) (g := 2) rfl (by kernel_rfl) rfl rfl rfl (by exact fun _ _ h => h)) (fun _ => trivial) rfl) ?_
      refine And.intro (ob_not (wt_dep (c := true) (b := false) (g := 2) rfl (by kernel_rfl) rfl rfl rfl (by exact fun _ _ h => h)) (fun _ => trivial) rfl) ?_
      refine And.intro (ob_pick (b := true) rfl (wt_none rfl) (ev_dep (j := 2) (by kernel_rfl) rfl rfl) (ev_const _) (fun _ _ h => h)) ?_
      trivial
    case done5 =>
      refine fun w1 hb1 v0 h0 v1 h1 v2 h2 v3 h3 v4 h4 v5 h5 b hbf => ?_
      obtain rfl := h0; obtain rfl := h1; obtain rfl := h2; obtain rfl := h5
      clear h3
      clear h4
      simp only [Act.put, List.setIfInBounds_toArray, List.set_cons_zero, List.set_cons_succ] at hbf
      subst hbf
      replace B0 := B0.below hb1
      replace k0s := k0s.below hb1
      replace k0d := k0d.below hb1
      replace k0z := k0z.below hb1
      replace k0 := k0.below hb1
      replace BR0 := BR0.below hb1
      replace bb := bb.trans (hb1.mono bb.size)
      have hsz1 := bb.size
      refine ops_done ?_
      have sB := bb.size
      go_upto_region 2 with (fail)
      refine flowp 1 [Pd.eq (.agg #[.bool false, .slice none 0 0, .slice none 0 0])] (by kernel_rfl) ?ob6 ?done6
      case ob6 =>
        refine And.intro (ob_build0 (v := .agg #[.bool false, .slice none 0 0, .slice none 0 0]) rfl (wt_none rfl) (fun _ => by kernel_rfl) (fun _ => rfl)) ?_
        trivial
      case done6 =>
        refine fun w2 hb2 v0 h0 b hbf => ?_
        obtain rfl := h0
        simp only [Act.put, List.setIfInBounds_toArray, List.set_cons_zero, List.set_cons_succ] at hbf
        subst hbf
        replace B0 := B0.below hb2
        replace k0s := k0s.below hb2
        replace k0d := k0d.below hb2
        replace k0z := k0z.below hb2
        replace k0 := k0.below hb2
        replace BR0 := BR0.below hb2
        replace bb := bb.trans (hb2.mono bb.size)
        have hsz2 := bb.size
        refine ops_store (i := 1) rfl rfl rfl rfl rfl rfl (cells := [.bool false, .slice none 0 0, .slice none 0 0]) rfl BR0 rfl (by kernel_rfl) (one3 rfl rfl rfl) fun w9 hg9 B9 => ?_
        have bb9 := bb.trans ((Below.refl _ _).grown hg9 bb.size (fun g hg => by injection hg with hg; omega))
        obtain ⟨C0, C1, C2, _, _, _⟩ := three B9
        refine ops_assign (i := 2) (.int .i64 2) rfl rfl rfl rfl rfl fun b hbf => ?_
        simp only [Act.put, List.setIfInBounds_toArray, List.set_cons_zero, List.set_cons_succ] at hbf
        subst hbf
        refine ops_done ?_
        go_wp2
        exact bodyPost_ret (v := .tuple #[.agg #[.bool false, .slice none 0 0, .slice none 0 0], .int .i64 2]) (by simp [results, Tryz.results32, go_sem, C0, C1, C2]) rfl ⟨rfl, bb9⟩
  · obtain ⟨u0, t0, rfl, s0, r0⟩ := h0
    obtain ⟨A0, c0, rfl, _⟩ := id s0
    obtain ⟨D0, e0, rfl, _⟩ := id r0
    have HL : Hid (decide (n < -2000) = false) := decide_eq_false hlo
    have HG : Hid (decide (2000 < n) = true) := decide_eq_true (by omega)
    clear hn hlo
    go_enter Tryz.func32, Tryz.ntmps32
    go_upto_region 1 with (fail)
    obtain ⟨wx, hwx, bb, B0, BR0, hsz⟩ := vars2 w 28 28 #[.bool (ngB (x).num), .slice A0 (digs 4294967296 (x).num.natAbs).length c0, .slice D0 (digs 4294967296 (x).den).length e0] #[.bool false, .slice none 0 0, .slice none 0 0]
    rw [hwx]
    clear hwx
    have k0s := s0.below bb
    have k0d := r0.below bb
    have k0z : IsZ wx (.agg #[.bool (ngB (x).num), .slice A0 (digs 4294967296 (x).num.natAbs).length c0]) (x).num := ⟨_, rfl, k0s⟩
    have k0 : IsQ wx (.agg #[.bool (ngB (x).num), .slice A0 (digs 4294967296 (x).num.natAbs).length c0, .slice D0 (digs 4294967296 (x).den).length e0]) (x) := ⟨_, _, rfl, k0s, k0d⟩
    have hsz0 := bb.size
    have sB := bb.size
    refine flowp 6 [Pd.eq (.int .i64 n), Pd.eq (.bool false), Pd.eq (.bool false), Pd.eq (.int .i64 n), Pd.eq (.bool true), Pd.eq (.bool true)] (by kernel_rfl) ?ob7 ?done7
    case ob7 =>
      refine And.intro (ob_move rfl (wt_none rfl) (ev_far rfl rfl) (fun _ _ h => h)) ?_
      refine And.intro (ob_bin rfl (wt_none rfl) (ev_dep (j := 0) (by kernel_rfl) rfl rfl) (ev_const _) (fun _ _ _ hx hy => ⟨.bool false, by rw [hx, hy, bin_lss_int, HL.out], rfl⟩)) ?_
      refine And.intro (ob_move rfl (wt_none rfl) (ev_dep (j := 1) (by kernel_rfl) rfl rfl) (fun _ _ h => h)) ?_
      refine And.intro (ob_move rfl (wt_dep (c := false) (b := false) (g := 2) rfl (by kernel_rfl) rfl rfl rfl (by exact fun _ _ h => h)) (ev_far rfl rfl) (fun _ _ h => h)) ?_
      refine And.intro (ob_bin rfl (wt_dep (c := false) (b := false) (g := 2) rfl (by kernel_rfl) rfl rfl rfl (by exact fun _ _ h => h)) (ev_dep (j := 3) (by kernel_rfl) rfl rfl) (ev_const _) (fun _ _ _ hx hy => ⟨.bool true, by rw [hx, hy, bin_gtr_int, HG.out], rfl⟩)) ?_
      refine And.intro (ob_pick (b := false) rfl (wt_none rfl) (ev_dep (j := 2) (by kernel_rfl) rfl rfl) (ev_dep (j := 4) (by kernel_rfl) rfl rfl) (fun _ _ h => h)) ?_
      trivial
    case done7 =>
      refine fun w1 hb1 v0 h0 v1 h1 v2 h2 v3 h3 v4 h4 v5 h5 b hbf => ?_
      obtain rfl := h0; obtain rfl := h1; obtain rfl := h2; obtain rfl := h3; obtain rfl := h4; obtain rfl := h5
      simp only [Act.put, List.setIfInBounds_toArray, List.set_cons_zero, List.set_cons_succ] at hbf
      subst hbf
      replace B0 := B0.below hb1
      replace k0s := k0s.below hb1
      replace k0d := k0d.below hb1
      replace k0z := k0z.below hb1
      replace k0 := k0.below hb1
      replace BR0 := BR0.below hb1
      replace bb := bb.trans (hb1.mono bb.size)
      have hsz1 := bb.size
      refine ops_done ?_
      have sB := bb.size
      go_upto_region 2 with (fail)
      refine flowp 1 [Pd.eq (.agg #[.bool false, .slice none 0 0, .slice none 0 0])] (by kernel_rfl) ?ob8 ?done8
      case ob8 =>
        refine And.intro (ob_build0 (v := .agg #[.bool false, .slice none 0 0, .slice none 0 0]) rfl (wt_none rfl) (fun _ => by kernel_rfl) (fun _ => rfl)) ?_
        trivial
      case done8 =>
        refine fun w2 hb2 v0 h0 b hbf => ?_
        obtain rfl := h0
        simp only [Act.put, List.setIfInBounds_toArray, List.set_cons_zero, List.set_cons_succ] at hbf
        subst hbf
        replace B0 := B0.below hb2
        replace k0s := k0s.below hb2
        replace k0d := k0d.below hb2
        replace k0z := k0z.below hb2
        replace k0 := k0.below hb2
        replace BR0 := BR0.below hb2
        replace bb := bb.trans (hb2.mono bb.size)
        have hsz2 := bb.size
        refine ops_store (i := 1) rfl rfl rfl rfl rfl rfl (cells := [.bool false, .slice none 0 0, .slice none 0 0]) rfl BR0 rfl (by kernel_rfl) (one3 rfl rfl rfl) fun w9 hg9 B9 => ?_
        have bb9 := bb.trans ((Below.refl _ _).grown hg9 bb.size (fun g hg => by injection hg with hg; omega))
        obtain ⟨C0, C1, C2, _, _, _⟩ := three B9
        refine ops_assign (i := 2) (.int .i64 2) rfl rfl rfl rfl rfl fun b hbf => ?_
        simp only [Act.put, List.setIfInBounds_toArray, List.set_cons_zero, List.set_cons_succ] at hbf
        subst hbf
        refine ops_done ?_
        go_wp2
        exact bodyPost_ret (v := .tuple #[.agg #[.bool false, .slice none 0 0, .slice none 0 0], .int .i64 2]) (by simp [results, Tryz.results32, go_sem, C0, C1, C2]) rfl ⟨rfl, bb9⟩
set_option maxHeartbeats 1600000 in
set_option maxRecDepth 100000 in
theorem fpow_nat (a0 : Value) (x : Rat) (n : Int) (d : Nat) (w : World) (h0 : IsQ w a0 x) (hn : n = (d : Int)) (hd : d ≤ 2000) (hl : lenQ x 1) :
    Calls Tryz.prog 32 #[a0, .int .i64 n] w (RetQE (x ^ d) 0 w) := by
  obtain ⟨u0, t0, rfl, s0, r0⟩ := h0
  obtain ⟨A0, c0, rfl, _⟩ := id s0
  obtain ⟨D0, e0, rfl, _⟩ := id r0
  have HL : Hid (decide (n < -2000) = false) := decide_eq_false (by omega)
  have HG : Hid (decide (2000 < n) = false) := decide_eq_false (by omega)
  have HS : Hid (decide (0 ≤ n) = true) := decide_eq_true (by omega)
  have HN := Lib.hid hn
  go_enter Tryz.func32, Tryz.ntmps32
  go_upto_region 1 with (fail)
  obtain ⟨wx, hwx, bb, B0, BR0, hsz⟩ := vars2 w 28 28 #[.bool (ngB (x).num), .slice A0 (digs 4294967296 (x).num.natAbs).length c0, .slice D0 (digs 4294967296 (x).den).length e0] #[.bool false, .slice none 0 0, .slice none 0 0]
  rw [hwx]
  clear hwx
  have k0s := s0.below bb
  have k0d := r0.below bb
  have k0z : IsZ wx (.agg #[.bool (ngB (x).num), .slice A0 (digs 4294967296 (x).num.natAbs).length c0]) (x).num := ⟨_, rfl, k0s⟩
  have k0 : IsQ wx (.agg #[.bool (ngB (x).num), .slice A0 (digs 4294967296 (x).num.natAbs).length c0, .slice D0 (digs 4294967296 (x).den).length e0]) (x) := ⟨_, _, rfl, k0s, k0d⟩
  have hsz0 := bb.size
  have sB := bb.size
  refine flowp 6 [Pd.eq (.int .i64 n), Pd.eq (.bool false), Pd.eq (.bool false), Pd.eq (.int .i64 n), Pd.eq (.bool false), Pd.eq (.bool false)] (by kernel_rfl) ?ob9 ?done9
  case ob9 =>
    refine And.intro (ob_move rfl (wt_none rfl) (ev_far rfl rfl) (fun _ _ h => h)) ?_
    refine And.intro (ob_bin rfl (wt_none rfl) (ev_dep (j := 0) (by kernel_rfl) rfl rfl) (ev_const _) (fun _ _ _ hx hy => ⟨.bool false, by rw [hx, hy, bin_lss_int, HL.out], rfl⟩)) ?_
    refine And.intro (ob_move rfl (wt_none rfl) (ev_dep (j := 1) (by kernel_rfl) rfl rfl) (fun _ _ h => h)) ?_
    refine And.intro (ob_move rfl (wt_dep (c := false) (b := false) (g := 2) rfl (by kernel_rfl) rfl rfl rfl (by exact fun _ _ h => h)) (ev_far rfl rfl) (fun _ _ h => h)) ?_
    refine And.intro (ob_bin rfl (wt_dep (c := false) (b := false) (g := 2) rfl (by kernel_rfl) rfl rfl rfl (by exact fun _ _ h => h)) (ev_dep (j := 3) (by kernel_rfl) rfl rfl) (ev_const _) (fun _ _ _ hx hy => ⟨.bool false, by rw [hx, hy, bin_gtr_int, HG.out], rfl⟩)) ?_
    refine And.intro (ob_pick (b := false) rfl (wt_none rfl) (ev_dep (j := 2) (by kernel_rfl) rfl rfl) (ev_dep (j := 4) (by kernel_rfl) rfl rfl) (fun _ _ h => h)) ?_
    trivial
  case done9 =>
    refine fun w1 hb1 v0 h0 v1 h1 v2 h2 v3 h3 v4 h4 v5 h5 b hbf => ?_
    obtain rfl := h0; obtain rfl := h1; obtain rfl := h2; obtain rfl := h3; obtain rfl := h4; obtain rfl := h5
    simp only [Act.put, List.setIfInBounds_toArray, List.set_cons_zero, List.set_cons_succ] at hbf
    subst hbf
    replace B0 := B0.below hb1
    replace k0s := k0s.below hb1
    replace k0d := k0d.below hb1
    replace k0z := k0z.below hb1
    replace k0 := k0.below hb1
    replace BR0 := BR0.below hb1
    replace bb := bb.trans (hb1.mono bb.size)
    have hsz1 := bb.size
    refine ops_done ?_
    have sB := bb.size
    go_upto_region 3 with (fail)
    refine flowp 2 [Pd.eq (.int .i64 n), Pd.eq (.bool true)] (by kernel_rfl) ?ob10 ?done10
    case ob10 =>
      refine And.intro (ob_move rfl (wt_none rfl) (ev_far rfl rfl) (fun _ _ h => h)) ?_
      refine And.intro (ob_bin rfl (wt_none rfl) (ev_dep (j := 0) (by kernel_rfl) rfl rfl) (ev_const _) (fun _ _ _ hx hy => ⟨.bool true, by rw [hx, hy, bin_geq_int, HS.out], rfl⟩)) ?_
      trivial
    case done10 =>
      refine fun w2 hb2 v0 h0 v1 h1 b hbf => ?_
      obtain rfl := h0; obtain rfl := h1
      simp only [Act.put, List.setIfInBounds_toArray, List.set_cons_zero, List.set_cons_succ] at hbf
      subst hbf
      replace B0 := B0.below hb2
      replace k0s := k0s.below hb2
      replace k0d := k0d.below hb2
      replace k0z := k0z.below hb2
      replace k0 := k0.below hb2
      replace BR0 := BR0.below hb2
      replace bb := bb.trans (hb2.mono bb.size)
      have hsz2 := bb.size
      refine ops_done ?_
      have sB := bb.size
      go_upto_region 4 with (fail)
      refine flowp 3 [Pd.eq (.agg #[.bool (ngB (x).num), .slice A0 (digs 4294967296 (x).num.natAbs).length c0, .slice D0 (digs 4294967296 (x).den).length e0]), Pd.eq (.int .i64 n), pqn (x ^ d)] (by kernel_rfl) ?ob11 ?done11
      case ob11 =>
        refine And.intro (ob_load rfl (wt_none rfl) (ev_far rfl rfl) (fun w2 hb => run_loadAll Tryz.underlying28 rfl (by kernel_rfl) (B0.below hb)) (fun _ _ => rfl)) ?_
        refine And.intro (ob_move rfl (wt_none rfl) (ev_far rfl rfl) (fun _ _ h => h)) ?_
        refine And.intro (ob_call2 rfl Tryz.func66 (by kernel_rfl) (wt_none rfl) (ev_dep (j := 0) (by kernel_rfl) rfl rfl) (ev_dep (j := 1) (by kernel_rfl) rfl rfl) (fun w2 u0 u1 hb h0 h1 => by obtain rfl := h0; obtain rfl := h1; exact (power_any _ x _ d _ (k0.below hb) HN.out hd hl).mono fun e w3 h => RetQn.pd h)) ?_
        trivial
      case done11 =>
        refine fun w3 hb3 v0 h0 v1 h1 v2 h2 b hbf => ?_
        obtain rfl := h0; obtain rfl := h1
        have q2 := h2
        simp only [Act.put, List.setIfInBounds_toArray, List.set_cons_zero, List.set_cons_succ] at hbf
        subst hbf
        replace B0 := B0.below hb3
        replace k0s := k0s.below hb3
        replace k0d := k0d.below hb3
        replace k0z := k0z.below hb3
        replace k0 := k0.below hb3
        replace BR0 := BR0.below hb3
        replace bb := bb.trans (hb3.mono bb.size)
        have hsz3 := bb.size
        obtain ⟨u2, t2, rfl, q2, d2⟩ := q2
        obtain ⟨A9, c9, rfl, _⟩ := id q2
        obtain ⟨D9, e9, rfl, _⟩ := id d2
        refine ops_store (i := 3) rfl rfl rfl rfl rfl rfl (cells := [.bool (ngB ((x ^ d)).num), .slice A9 (digs 4294967296 ((x ^ d)).num.natAbs).length c9, .slice D9 (digs 4294967296 ((x ^ d)).den).length e9]) rfl BR0 rfl (by kernel_rfl) (one3 rfl rfl rfl) fun w9 hg9 B9 => ?_
        have k9 := off q2 BR0 no_ints3 hg9
        have d9 := off d2 BR0 no_ints3 hg9
        have bb9 := bb.trans ((Below.refl _ _).grown hg9 bb.size (fun g hg => by injection hg with hg; omega))
        obtain ⟨C0, C1, C2, _, _, _⟩ := three B9
        refine ops_assign (i := 4) (.int .i64 0) rfl rfl rfl rfl rfl fun b hbf => ?_
        simp only [Act.put, List.setIfInBounds_toArray, List.set_cons_zero, List.set_cons_succ] at hbf
        subst hbf
        refine ops_done ?_
        go_wp2
        exact bodyPost_ret (v := .tuple #[.agg #[.bool (ngB ((x ^ d)).num), .slice A9 (digs 4294967296 ((x ^ d)).num.natAbs).length c9, .slice D9 (digs 4294967296 ((x ^ d)).den).length e9], .int .i64 0]) (by simp [results, Tryz.results32, go_sem, C0, C1, C2]) rfl ⟨_, rfl, ⟨_, _, rfl, k9, d9⟩, bb9⟩
set_option maxHeartbeats 1600000 in
set_option maxRecDepth 100000 in
theorem fpow_zero (a0 : Value) (x : Rat) (n : Int) (w : World) (h0 : IsQ w a0 x) (hn : -2000 ≤ n ∧ n < 0) (hx : x = 0) :
    Calls Tryz.prog 32 #[a0, .int .i64 n] w (RetQN 3 w) := by
  obtain ⟨u0, t0, rfl, s0, r0⟩ := h0
  obtain ⟨A0, c0, rfl, _⟩ := id s0
  obtain ⟨D0, e0, rfl, _⟩ := id r0
  have HL : Hid (decide (n < -2000) = false) := decide_eq_false (by omega)
  have HG : Hid (decide (2000 < n) = false) := decide_eq_false (by omega)
  have HS : Hid (decide (0 ≤ n) = false) := decide_eq_false (by omega)
  have HX := Lib.hid hx
  clear hx
  go_enter Tryz.func32, Tryz.ntmps32
  go_upto_region 1 with (fail)
  obtain ⟨wx, hwx, bb, B0, BR0, hsz⟩ := vars2 w 28 28 #[.bool (ngB (x).num), .slice A0 (digs 4294967296 (x).num.natAbs).length c0, .slice D0 (digs 4294967296 (x).den).length e0] #[.bool false, .slice none 0 0, .slice none 0 0]
  rw [hwx]
  clear hwx
  have k0s := s0.below bb
  have k0d := r0.below bb
  have k0z : IsZ wx (.agg #[.bool (ngB (x).num), .slice A0 (digs 4294967296 (x).num.natAbs).length c0]) (x).num := ⟨_, rfl, k0s⟩
  have k0 : IsQ wx (.agg #[.bool (ngB (x).num), .slice A0 (digs 4294967296 (x).num.natAbs).length c0, .slice D0 (digs 4294967296 (x).den).length e0]) (x) := ⟨_, _, rfl, k0s, k0d⟩
  have hsz0 := bb.size
  have sB := bb.size
  refine flowp 6 [Pd.eq (.int .i64 n), Pd.eq (.bool false), Pd.eq (.bool false), Pd.eq (.int .i64 n), Pd.eq (.bool false), Pd.eq (.bool false)] (by kernel_rfl) ?ob12 ?done12
  case ob12 =>
    refine And.intro (ob_move rfl (wt_none rfl) (ev_far rfl rfl) (fun _ _ h => h)) ?_
    refine And.intro (ob_bin rfl (wt_none rfl) (ev_dep (j := 0) (by kernel_rfl) rfl rfl) (ev_const _) (fun _ _ _ hx hy => ⟨.bool false, by rw [hx, hy, bin_lss_int, HL.out], rfl⟩)) ?_
    refine And.intro (ob_move rfl (wt_none rfl) (ev_dep (j := 1) (by kernel_rfl) rfl rfl) (fun _ _ h => h)) ?_
    refine And.intro (ob_move rfl (wt_dep (c := false) (b := false) (g := 2) rfl (by kernel_rfl) rfl rfl rfl (by exact fun _ _ h => h)) (ev_far rfl rfl) (fun _ _ h => h)) ?_
    refine And.intro (ob_bin rfl (wt_dep (c := false) (b := false) (g := 2) rfl (by kernel_rfl) rfl rfl rfl (by exact fun _ _ h => h)) (ev_dep (j := 3) (by kernel_rfl) rfl rfl) (ev_const _) (fun _ _ _ hx hy => ⟨.bool false, by rw [hx, hy, bin_gtr_int, HG.out], rfl⟩)) ?_
    refine And.intro (ob_pick (b := false) rfl (wt_none rfl) (ev_dep (j := 2) (by kernel_rfl) rfl rfl) (ev_dep (j := 4) (by kernel_rfl) rfl rfl) (fun _ _ h => h)) ?_
    trivial
  case done12 =>
    refine fun w1 hb1 v0 h0 v1 h1 v2 h2 v3 h3 v4 h4 v5 h5 b hbf => ?_
    obtain rfl := h0; obtain rfl := h1; obtain rfl := h2; obtain rfl := h3; obtain rfl := h4; obtain rfl := h5
    simp only [Act.put, List.setIfInBounds_toArray, List.set_cons_zero, List.set_cons_succ] at hbf
    subst hbf
    replace B0 := B0.below hb1
    replace k0s := k0s.below hb1
    replace k0d := k0d.below hb1
    replace k0z := k0z.below hb1
    replace k0 := k0.below hb1
    replace BR0 := BR0.below hb1
    replace bb := bb.trans (hb1.mono bb.size)
    have hsz1 := bb.size
    refine ops_done ?_
    have sB := bb.size
    go_upto_region 3 with (fail)
    refine flowp 2 [Pd.eq (.int .i64 n), Pd.eq (.bool false)] (by kernel_rfl) ?ob13 ?done13
    case ob13 =>
      refine And.intro (ob_move rfl (wt_none rfl) (ev_far rfl rfl) (fun _ _ h => h)) ?_
      refine And.intro (ob_bin rfl (wt_none rfl) (ev_dep (j := 0) (by kernel_rfl) rfl rfl) (ev_const _) (fun _ _ _ hx hy => ⟨.bool false, by rw [hx, hy, bin_geq_int, HS.out], rfl⟩)) ?_
      trivial
    case done13 =>
      refine fun w2 hb2 v0 h0 v1 h1 b hbf => ?_
      obtain rfl := h0; obtain rfl := h1
      simp only [Act.put, List.setIfInBounds_toArray, List.set_cons_zero, List.set_cons_succ] at hbf
      subst hbf
      replace B0 := B0.below hb2
      replace k0s := k0s.below hb2
      replace k0d := k0d.below hb2
      replace k0z := k0z.below hb2
      replace k0 := k0.below hb2
      replace BR0 := BR0.below hb2
      replace bb := bb.trans (hb2.mono bb.size)
      have hsz2 := bb.size
      refine ops_done ?_
      have sB := bb.size
      go_upto_region 5 with (fail)
      have lt2_2 := Blk.lt B0
      have lt2_4 := Blk.lt BR0
      refine flowp 6 [Pd.eq (.agg #[.bool (ngB (x).num), .slice A0 (digs 4294967296 (x).num.natAbs).length c0, .slice D0 (digs 4294967296 (x).den).length e0]), Pd.eq (.tuple #[.agg #[.bool false, .slice none 0 0, .slice none 0 0], .int .i64 3]), Pd.eq (.tuple #[.agg #[.bool false, .slice none 0 0, .slice none 0 0], .int .i64 3]), Pd.eq (.agg #[.bool false, .slice none 0 0, .slice none 0 0]), Pd.eq (.int .i64 3), pn 28 #[.bool false, .slice none 0 0, .slice none 0 0] w2.heap.size] (by kernel_rfl) ?ob14 ?done14
      case ob14 =>
        refine And.intro (ob_load rfl (wt_none rfl) (ev_far rfl rfl) (fun w2 hb => run_loadAll Tryz.underlying28 rfl (by kernel_rfl) (B0.below hb)) (fun _ _ => rfl)) ?_
        refine And.intro (ob_call1 rfl Tryz.func60 (by kernel_rfl) (wt_none rfl) (ev_dep (j := 0) (by kernel_rfl) rfl rfl) (fun w2 u0 hb h0 => by obtain rfl := h0; exact (finv_zero _ x _ (k0.below hb) HX.out).mono fun e w3 h => RetQN.pd h)) ?_
        refine And.intro (ob_move rfl (wt_none rfl) (ev_dep (j := 1) (by kernel_rfl) rfl rfl) (fun _ _ h => h)) ?_
        refine And.intro (ob_extract rfl (wt_none rfl) (ev_dep (j := 2) (by kernel_rfl) rfl rfl) (fun w2 u hu => by obtain rfl := hu; exact ⟨_, rfl, rfl⟩)) ?_
        refine And.intro (ob_extract rfl (wt_none rfl) (ev_dep (j := 2) (by kernel_rfl) rfl rfl) (fun w2 u hu => by obtain rfl := hu; exact ⟨_, rfl, rfl⟩)) ?_
        refine And.intro (ob_alloc (z := .agg #[.bool false, .slice none 0 0, .slice none 0 0]) rfl rfl (fun _ => by kernel_rfl) (fun _ _ hB h => ⟨_, rfl, hB, h⟩)) ?_
        trivial
      case done14 =>
        refine fun w3 hb3 v0 h0 v1 h1 v2 h2 v3 h3 v4 h4 v5 h5 d5 b hbf => ?_
        obtain rfl := h0; obtain rfl := h1; obtain rfl := h2; obtain rfl := h3; obtain rfl := h4
        obtain ⟨g14_5, rfl, hg5, B5⟩ := h5
        simp only [Act.put, List.setIfInBounds_toArray, List.set_cons_zero, List.set_cons_succ] at hbf
        subst hbf
        replace B0 := B0.below hb3
        replace k0s := k0s.below hb3
        replace k0d := k0d.below hb3
        replace k0z := k0z.below hb3
        replace k0 := k0.below hb3
        replace BR0 := BR0.below hb3
        replace bb := bb.trans (hb3.mono bb.size)
        have hsz3 := bb.size
        have BA6 := B5
        refine ops_store (i := 6) rfl rfl rfl rfl rfl rfl (cells := [.bool false, .slice none 0 0, .slice none 0 0]) rfl BA6 rfl (by kernel_rfl) (one3 rfl rfl rfl) fun w4 hg4 BN4 => ?_
        replace k0s := off k0s BA6 no_ints3 hg4
        replace k0d := off k0d BA6 no_ints3 hg4
        replace k0z : IsZ w4 (.agg #[.bool (ngB (x).num), .slice A0 (digs 4294967296 (x).num.natAbs).length c0]) ((x).num) := ⟨_, rfl, k0s⟩
        replace k0 : IsQ w4 (.agg #[.bool (ngB (x).num), .slice A0 (digs 4294967296 (x).num.natAbs).length c0, .slice D0 (digs 4294967296 (x).den).length e0]) (x) := ⟨_, _, rfl, k0s, k0d⟩
        replace B0 := B0.grown hg4 (by omega)
        replace BR0 := BR0.grown hg4 (by omega)
        replace bb := bb.trans ((Below.refl _ _).grown hg4 bb.size (fun g hg => by injection hg with hg; omega))
        have hsz4 := bb.size
        replace BA6 : Blk w4 (g14_5) _ #[.bool false, .slice none 0 0, .slice none 0 0] := BN4
        refine ops_assign (i := 7) (.int .i64 3) rfl rfl rfl rfl rfl fun b hbf => ?_
        simp only [Act.put, List.setIfInBounds_toArray, List.set_cons_zero, List.set_cons_succ] at hbf
        subst hbf
        refine ops_done ?_
        have sB := bb.size
        go_upto_region 6 with (fail)
        refine flowp 2 [Pd.eq (.int .i64 3), Pd.eq (.bool true)] (by kernel_rfl) ?ob15 ?done15
        case ob15 =>
          refine And.intro (ob_move rfl (wt_none rfl) (ev_far rfl rfl) (fun _ _ h => h)) ?_
          refine And.intro (ob_bin rfl (wt_none rfl) (ev_dep (j := 0) (by kernel_rfl) rfl rfl) (ev_const _) (fun _ _ _ hx hy => ⟨.bool ((3 : Int) != 0), by rw [hx, hy]; exact bin_neq_int _ _ _ _ _, congrArg Value.bool (by decide)⟩)) ?_
          trivial
        case done15 =>
          refine fun w5 hb5 v0 h0 v1 h1 b hbf => ?_
          obtain rfl := h0; obtain rfl := h1
          simp only [Act.put, List.setIfInBounds_toArray, List.set_cons_zero, List.set_cons_succ] at hbf
          subst hbf
          replace B0 := B0.below hb5
          replace k0s := k0s.below hb5
          replace k0d := k0d.below hb5
          replace k0z := k0z.below hb5
          replace k0 := k0.below hb5
          replace BR0 := BR0.below hb5
          replace BA6 := BA6.below hb5
          replace bb := bb.trans (hb5.mono bb.size)
          have hsz5 := bb.size
          refine ops_done ?_
          have sB := bb.size
          go_upto_region 7 with (fail)
          refine flowp 2 [Pd.eq (.agg #[.bool false, .slice none 0 0, .slice none 0 0]), Pd.eq (.int .i64 3)] (by kernel_rfl) ?ob16 ?done16
          case ob16 =>
            refine And.intro (ob_build0 (v := .agg #[.bool false, .slice none 0 0, .slice none 0 0]) rfl (wt_none rfl) (fun _ => by kernel_rfl) (fun _ => rfl)) ?_
            refine And.intro (ob_move rfl (wt_none rfl) (ev_far rfl rfl) (fun _ _ h => h)) ?_
            trivial
          case done16 =>
            refine fun w6 hb6 v0 h0 v1 h1 b hbf => ?_
            obtain rfl := h0; obtain rfl := h1
            simp only [Act.put, List.setIfInBounds_toArray, List.set_cons_zero, List.set_cons_succ] at hbf
            subst hbf
            replace B0 := B0.below hb6
            replace k0s := k0s.below hb6
            replace k0d := k0d.below hb6
            replace k0z := k0z.below hb6
            replace k0 := k0.below hb6
            replace BR0 := BR0.below hb6
            replace BA6 := BA6.below hb6
            replace bb := bb.trans (hb6.mono bb.size)
            have hsz6 := bb.size
            refine ops_store (i := 2) rfl rfl rfl rfl rfl rfl (cells := [.bool false, .slice none 0 0, .slice none 0 0]) rfl BR0 rfl (by kernel_rfl) (one3 rfl rfl rfl) fun w9 hg9 B9 => ?_
            have bb9 := bb.trans ((Below.refl _ _).grown hg9 bb.size (fun g hg => by injection hg with hg; omega))
            obtain ⟨C0, C1, C2, _, _, _⟩ := three B9
            refine ops_assign (i := 3) (.int .i64 3) rfl rfl rfl rfl rfl fun b hbf => ?_
            simp only [Act.put, List.setIfInBounds_toArray, List.set_cons_zero, List.set_cons_succ] at hbf
            subst hbf
            refine ops_done ?_
            go_wp2
            exact bodyPost_ret (v := .tuple #[.agg #[.bool false, .slice none 0 0, .slice none 0 0], .int .i64 3]) (by simp [results, Tryz.results32, go_sem, C0, C1, C2]) rfl ⟨rfl, bb9⟩
set_option maxHeartbeats 1600000 in
set_option maxRecDepth 100000 in
theorem fpow_neg (a0 : Value) (x : Rat) (n : Int) (w : World) (h0 : IsQ w a0 x) (hn : -2000 ≤ n ∧ n < 0) (hx : x ≠ 0) (hl : lenQ x 1) :
    Calls Tryz.prog 32 #[a0, .int .i64 n] w (RetQE (x⁻¹ ^ n.natAbs) 0 w) := by
  obtain ⟨u0, t0, rfl, s0, r0⟩ := h0
  obtain ⟨A0, c0, rfl, _⟩ := id s0
  obtain ⟨D0, e0, rfl, _⟩ := id r0
  have HL : Hid (decide (n < -2000) = false) := decide_eq_false (by omega)
  have HG : Hid (decide (2000 < n) = false) := decide_eq_false (by omega)
  have HS : Hid (decide (0 ≤ n) = false) := decide_eq_false (by omega)
  have HX := Lib.hid hx
  have HNN : Hid (-(n) = ((n.natAbs : Nat) : Int)) := by show _ = _; omega
  have hna : n.natAbs ≤ 2000 := by omega
  clear hx
  go_enter Tryz.func32, Tryz.ntmps32
  go_upto_region 1 with (fail)
  obtain ⟨wx, hwx, bb, B0, BR0, hsz⟩ := vars2 w 28 28 #[.bool (ngB (x).num), .slice A0 (digs 4294967296 (x).num.natAbs).length c0, .slice D0 (digs 4294967296 (x).den).length e0] #[.bool false, .slice none 0 0, .slice none 0 0]
  rw [hwx]
  clear hwx
  have k0s := s0.below bb
  have k0d := r0.below bb
  have k0z : IsZ wx (.agg #[.bool (ngB (x).num), .slice A0 (digs 4294967296 (x).num.natAbs).length c0]) (x).num := ⟨_, rfl, k0s⟩
  have k0 : IsQ wx (.agg #[.bool (ngB (x).num), .slice A0 (digs 4294967296 (x).num.natAbs).length c0, .slice D0 (digs 4294967296 (x).den).length e0]) (x) := ⟨_, _, rfl, k0s, k0d⟩
  have hsz0 := bb.size
  have sB := bb.size
  refine flowp 6 [Pd.eq (.int .i64 n), Pd.eq (.bool false), Pd.eq (.bool false), Pd.eq (.int .i64 n), Pd.eq (.bool false), Pd.eq (.bool false)] (by kernel_rfl) ?ob17 ?done17
  case ob17 =>
    refine And.intro (ob_move rfl (wt_none rfl) (ev_far rfl rfl) (fun _ _ h => h)) ?_
    refine And.intro (ob_bin rfl (wt_none rfl) (ev_dep (j := 0) (by kernel_rfl) rfl rfl) (ev_const _) (fun _ _ _ hx hy => ⟨.bool false, by rw [hx, hy, bin_lss_int, HL.out], rfl⟩)) ?_
    refine And.intro (ob_move rfl (wt_none rfl) (ev_dep (j := 1) (by kernel_rfl) rfl rfl) (fun _ _ h => h)) ?_
    refine And.intro (ob_move rfl (wt_dep (c := false) (b := false) (g := 2) rfl (by kernel_rfl) rfl rfl rfl (by exact fun _ _ h => h)) (ev_far rfl rfl) (fun _ _ h => h)) ?_
    refine And.intro (ob_bin rfl (wt_dep (c := false) (b := false) (g := 2) rfl (by kernel_rfl) rfl rfl rfl (by exact fun _ _ h => h)) (ev_dep (j := 3) (by kernel_rfl) rfl rfl) (ev_const _) (fun _ _ _ hx hy => ⟨.bool false, by rw [hx, hy, bin_gtr_int, HG.out], rfl⟩)) ?_
    refine And.intro (ob_pick (b := false) rfl (wt_none rfl) (ev_dep (j := 2) (by kernel_rfl) rfl rfl) (ev_dep (j := 4) (by kernel_rfl) rfl rfl) (fun _ _ h => h)) ?_
    trivial
  case done17 =>
    refine fun w1 hb1 v0 h0 v1 h1 v2 h2 v3 h3 v4 h4 v5 h5 b hbf => ?_
    obtain rfl := h0; obtain rfl := h1; obtain rfl := h2; obtain rfl := h3; obtain rfl := h4; obtain rfl := h5
    simp only [Act.put, List.setIfInBounds_toArray, List.set_cons_zero, List.set_cons_succ] at hbf
    subst hbf
    replace B0 := B0.below hb1
    replace k0s := k0s.below hb1
    replace k0d := k0d.below hb1
    replace k0z := k0z.below hb1
    replace k0 := k0.below hb1
    replace BR0 := BR0.below hb1
    replace bb := bb.trans (hb1.mono bb.size)
    have hsz1 := bb.size
    refine ops_done ?_
    have sB := bb.size
    go_upto_region 3 with (fail)
    refine flowp 2 [Pd.eq (.int .i64 n), Pd.eq (.bool false)] (by kernel_rfl) ?ob18 ?done18
    case ob18 =>
      refine And.intro (ob_move rfl (wt_none rfl) (ev_far rfl rfl) (fun _ _ h => h)) ?_
      refine And.intro (ob_bin rfl (wt_none rfl) (ev_dep (j := 0) (by kernel_rfl) rfl rfl) (ev_const _) (fun _ _ _ hx hy => ⟨.bool false, by rw [hx, hy, bin_geq_int, HS.out], rfl⟩)) ?_
      trivial
    case done18 =>
      refine fun w2 hb2 v0 h0 v1 h1 b hbf => ?_
      obtain rfl := h0; obtain rfl := h1
      simp only [Act.put, List.setIfInBounds_toArray, List.set_cons_zero, List.set_cons_succ] at hbf
      subst hbf
      replace B0 := B0.below hb2
      replace k0s := k0s.below hb2
      replace k0d := k0d.below hb2
      replace k0z := k0z.below hb2
      replace k0 := k0.below hb2
      replace BR0 := BR0.below hb2
      replace bb := bb.trans (hb2.mono bb.size)
      have hsz2 := bb.size
      refine ops_done ?_
      have sB := bb.size
      go_upto_region 5 with (fail)
      have lt2_2 := Blk.lt B0
      have lt2_4 := Blk.lt BR0
      refine flowp 6 [Pd.eq (.agg #[.bool (ngB (x).num), .slice A0 (digs 4294967296 (x).num.natAbs).length c0, .slice D0 (digs 4294967296 (x).den).length e0]), pqe (x⁻¹) 0, pqe (x⁻¹) 0, pqn (x⁻¹), Pd.eq (.int .i64 0), pn 28 #[.bool false, .slice none 0 0, .slice none 0 0] w2.heap.size] (by kernel_rfl) ?ob19 ?done19
      case ob19 =>
        refine And.intro (ob_load rfl (wt_none rfl) (ev_far rfl rfl) (fun w2 hb => run_loadAll Tryz.underlying28 rfl (by kernel_rfl) (B0.below hb)) (fun _ _ => rfl)) ?_
        refine And.intro (ob_call1 rfl Tryz.func60 (by kernel_rfl) (wt_none rfl) (ev_dep (j := 0) (by kernel_rfl) rfl rfl) (fun w2 u0 hb h0 => by obtain rfl := h0; exact (finv_ok _ x _ (k0.below hb) (hl.mono (by decide)) HX.out).mono fun e w3 h => RetQE.pd h)) ?_
        refine And.intro (ob_move rfl (wt_none rfl) (ev_dep (j := 1) (by kernel_rfl) rfl rfl) (fun _ _ h => h)) ?_
        refine And.intro (ob_extract rfl (wt_none rfl) (ev_dep (j := 2) (by kernel_rfl) rfl rfl) (fun w2 u hu => by obtain ⟨v, rfl, q1⟩ := hu; exact ⟨v, rfl, q1⟩)) ?_
        refine And.intro (ob_extract rfl (wt_none rfl) (ev_dep (j := 2) (by kernel_rfl) rfl rfl) (fun w2 u hu => by obtain ⟨v, rfl, q1⟩ := hu; exact ⟨_, rfl, rfl⟩)) ?_
        refine And.intro (ob_alloc (z := .agg #[.bool false, .slice none 0 0, .slice none 0 0]) rfl rfl (fun _ => by kernel_rfl) (fun _ _ hB h => ⟨_, rfl, hB, h⟩)) ?_
        trivial
      case done19 =>
        refine fun w3 hb3 v0 h0 v1 h1 v2 h2 v3 h3 v4 h4 v5 h5 d5 b hbf => ?_
        obtain rfl := h0; obtain rfl := h4
        clear h1
        clear h2
        have q3 := h3
        obtain ⟨g19_5, rfl, hg5, B5⟩ := h5
        simp only [Act.put, List.setIfInBounds_toArray, List.set_cons_zero, List.set_cons_succ] at hbf
        subst hbf
        replace B0 := B0.below hb3
        replace k0s := k0s.below hb3
        replace k0d := k0d.below hb3
        replace k0z := k0z.below hb3
        replace k0 := k0.below hb3
        replace BR0 := BR0.below hb3
        replace bb := bb.trans (hb3.mono bb.size)
        have hsz3 := bb.size
        have BA6 := B5
        obtain ⟨u3, t3, rfl, q3, d3⟩ := q3
        obtain ⟨A6, c6, rfl, _⟩ := id q3
        obtain ⟨D6, e6, rfl, _⟩ := id d3
        refine ops_store (i := 6) rfl rfl rfl rfl rfl rfl (cells := [.bool (ngB (x⁻¹).num), .slice A6 (digs 4294967296 (x⁻¹).num.natAbs).length c6, .slice D6 (digs 4294967296 (x⁻¹).den).length e6]) rfl BA6 rfl (by kernel_rfl) (one3 rfl rfl rfl) fun w4 hg4 BN4 => ?_
        replace q3 := off q3 BA6 no_ints3 hg4
        replace d3 := off d3 BA6 no_ints3 hg4
        replace k0s := off k0s BA6 no_ints3 hg4
        replace k0d := off k0d BA6 no_ints3 hg4
        replace k0z : IsZ w4 (.agg #[.bool (ngB (x).num), .slice A0 (digs 4294967296 (x).num.natAbs).length c0]) ((x).num) := ⟨_, rfl, k0s⟩
        replace k0 : IsQ w4 (.agg #[.bool (ngB (x).num), .slice A0 (digs 4294967296 (x).num.natAbs).length c0, .slice D0 (digs 4294967296 (x).den).length e0]) (x) := ⟨_, _, rfl, k0s, k0d⟩
        replace B0 := B0.grown hg4 (by omega)
        replace BR0 := BR0.grown hg4 (by omega)
        replace bb := bb.trans ((Below.refl _ _).grown hg4 bb.size (fun g hg => by injection hg with hg; omega))
        have hsz4 := bb.size
        have B6 : Blk w4 (g19_5) _ _ := BN4
        have k6s := q3
        have k6d := d3
        have k6z : IsZ w4 (.agg #[.bool (ngB (x⁻¹).num), .slice A6 (digs 4294967296 (x⁻¹).num.natAbs).length c6]) ((x⁻¹).num) := ⟨_, rfl, k6s⟩
        have k6 : IsQ w4 (.agg #[.bool (ngB (x⁻¹).num), .slice A6 (digs 4294967296 (x⁻¹).num.natAbs).length c6, .slice D6 (digs 4294967296 (x⁻¹).den).length e6]) (x⁻¹) := ⟨_, _, rfl, k6s, k6d⟩
        refine ops_assign (i := 7) (.int .i64 0) rfl rfl rfl rfl rfl fun b hbf => ?_
        simp only [Act.put, List.setIfInBounds_toArray, List.set_cons_zero, List.set_cons_succ] at hbf
        subst hbf
        refine ops_done ?_
        have sB := bb.size
        go_upto_region 6 with (fail)
        refine flowp 2 [Pd.eq (.int .i64 0), Pd.eq (.bool false)] (by kernel_rfl) ?ob20 ?done20
        case ob20 =>
          refine And.intro (ob_move rfl (wt_none rfl) (ev_far rfl rfl) (fun _ _ h => h)) ?_
          refine And.intro (ob_bin rfl (wt_none rfl) (ev_dep (j := 0) (by kernel_rfl) rfl rfl) (ev_const _) (fun _ _ _ hx hy => ⟨.bool ((0 : Int) != 0), by rw [hx, hy]; exact bin_neq_int _ _ _ _ _, congrArg Value.bool (by decide)⟩)) ?_
          trivial
        case done20 =>
          refine fun w5 hb5 v0 h0 v1 h1 b hbf => ?_
          obtain rfl := h0; obtain rfl := h1
          simp only [Act.put, List.setIfInBounds_toArray, List.set_cons_zero, List.set_cons_succ] at hbf
          subst hbf
          replace B0 := B0.below hb5
          replace k0s := k0s.below hb5
          replace k0d := k0d.below hb5
          replace k0z := k0z.below hb5
          replace k0 := k0.below hb5
          replace BR0 := BR0.below hb5
          replace B6 := B6.below hb5
          replace k6s := k6s.below hb5
          replace k6d := k6d.below hb5
          replace k6z := k6z.below hb5
          replace k6 := k6.below hb5
          replace bb := bb.trans (hb5.mono bb.size)
          have hsz5 := bb.size
          refine ops_done ?_
          have sB := bb.size
          go_upto_region 8 with (fail)
          refine flowp 4 [Pd.eq (.agg #[.bool (ngB (x⁻¹).num), .slice A6 (digs 4294967296 (x⁻¹).num.natAbs).length c6, .slice D6 (digs 4294967296 (x⁻¹).den).length e6]), Pd.eq (.int .i64 n), Pd.eq (.int .i64 (-(n))), pqn (x⁻¹ ^ n.natAbs)] (by kernel_rfl) ?ob21 ?done21
          case ob21 =>
            refine And.intro (ob_load rfl (wt_none rfl) (ev_far rfl rfl) (fun w2 hb => run_loadAll Tryz.underlying28 rfl (by kernel_rfl) (B6.below hb)) (fun _ _ => rfl)) ?_
            refine And.intro (ob_move rfl (wt_none rfl) (ev_far rfl rfl) (fun _ _ h => h)) ?_
            refine And.intro (ob_un rfl (wt_none rfl) (ev_dep (j := 1) (by kernel_rfl) rfl rfl) (fun _ => un_neg _ _ (by first | assumption | omega)) (fun _ => rfl)) ?_
            refine And.intro (ob_call2 rfl Tryz.func66 (by kernel_rfl) (wt_none rfl) (ev_dep (j := 0) (by kernel_rfl) rfl rfl) (ev_dep (j := 2) (by kernel_rfl) rfl rfl) (fun w2 u0 u1 hb h0 h1 => by obtain rfl := h0; obtain rfl := h1; exact (power_any _ x⁻¹ _ n.natAbs _ (k6.below hb) HNN.out hna (lenQ_inv HX.out hl)).mono fun e w3 h => RetQn.pd h)) ?_
            trivial
          case done21 =>
            refine fun w6 hb6 v0 h0 v1 h1 v2 h2 v3 h3 b hbf => ?_
            obtain rfl := h0; obtain rfl := h1; obtain rfl := h2
            have q3 := h3
            simp only [Act.put, List.setIfInBounds_toArray, List.set_cons_zero, List.set_cons_succ] at hbf
            subst hbf
            replace B0 := B0.below hb6
            replace k0s := k0s.below hb6
            replace k0d := k0d.below hb6
            replace k0z := k0z.below hb6
            replace k0 := k0.below hb6
            replace BR0 := BR0.below hb6
            replace B6 := B6.below hb6
            replace k6s := k6s.below hb6
            replace k6d := k6d.below hb6
            replace k6z := k6z.below hb6
            replace k6 := k6.below hb6
            replace bb := bb.trans (hb6.mono bb.size)
            have hsz6 := bb.size
            obtain ⟨u3, t3, rfl, q3, d3⟩ := q3
            obtain ⟨A9, c9, rfl, _⟩ := id q3
            obtain ⟨D9, e9, rfl, _⟩ := id d3
            refine ops_store (i := 4) rfl rfl rfl rfl rfl rfl (cells := [.bool (ngB ((x⁻¹ ^ n.natAbs)).num), .slice A9 (digs 4294967296 ((x⁻¹ ^ n.natAbs)).num.natAbs).length c9, .slice D9 (digs 4294967296 ((x⁻¹ ^ n.natAbs)).den).length e9]) rfl BR0 rfl (by kernel_rfl) (one3 rfl rfl rfl) fun w9 hg9 B9 => ?_
            have k9 := off q3 BR0 no_ints3 hg9
            have d9 := off d3 BR0 no_ints3 hg9
            have bb9 := bb.trans ((Below.refl _ _).grown hg9 bb.size (fun g hg => by injection hg with hg; omega))
            obtain ⟨C0, C1, C2, _, _, _⟩ := three B9
            refine ops_assign (i := 5) (.int .i64 0) rfl rfl rfl rfl rfl fun b hbf => ?_
            simp only [Act.put, List.setIfInBounds_toArray, List.set_cons_zero, List.set_cons_succ] at hbf
            subst hbf
            refine ops_done ?_
            go_wp2
            exact bodyPost_ret (v := .tuple #[.agg #[.bool (ngB ((x⁻¹ ^ n.natAbs)).num), .slice A9 (digs 4294967296 ((x⁻¹ ^ n.natAbs)).num.natAbs).length c9, .slice D9 (digs 4294967296 ((x⁻¹ ^ n.natAbs)).den).length e9], .int .i64 0]) (by simp [results, Tryz.results32, go_sem, C0, C1, C2]) rfl ⟨_, rfl, ⟨_, _, rfl, k9, d9⟩, bb9⟩
section
variable {P : Program} {ops : Array Oper} {L : List Oper} {Φ : List Pd} {w0 : World} {a0 : Act} {o : Oper} {G : Pd} {Q : Exit → Act → World → Prop}
end
theorem Up.mono {ss : List Rat} {i j : Nat} (h : Up ss i) (hj : j ≤ i) : Up ss j := fun p q x y h1 h2 hx hy => h p q x y h1 (by omega) hx hy
/-- A row of these, made by the call, and an error's number. -/
def RetRN (qs : List Rat) (w : World) (e : Ending) (w' : World) : Prop := ∃ g, e = .returned (.tuple #[.slice (some ⟨g, 0, none⟩) qs.length qs.length, .int .i64 0]) ∧ RowN w' g qs.length qs ∧ w.heap.size ≤ g ∧ Below w.heap.size w w'
/-- No row, and an error's number. -/
def RetNN (n : Int) (w : World) (e : Ending) (w' : World) : Prop := e = .returned (.tuple #[.slice none 0 0, .int .i64 n]) ∧ Below w.heap.size w w'
theorem ratsI_int (z : Int) : ((z : Int) : Rat) = mkRat z 1 := by rw [Rat.mkRat_one]
set_option maxHeartbeats 1600000 in
set_option maxRecDepth 100000 in
theorem fshares_nil (a0 : Value) (w : World) (h0 : IsI w a0 []) :
    Calls Tryz.prog 27 #[a0] w (RetNN 9 w) := by
  obtain ⟨A0, c0, rfl, hc0, hm0⟩ := h0.shape
  go_enter Tryz.func27, Tryz.ntmps27
  go_wp2
  go_ret2
  exact ⟨rfl, Below.refl _ _⟩
set_option maxHeartbeats 6400000 in
set_option maxRecDepth 100000 in
theorem fshares_some (a0 : Value) (l : List Int) (n : Int) (w : World) (h0 : IsI w a0 l) (hne : l ≠ []) (hl : l.length ≤ 300) (hnE : n = sharesE l) :
    Calls Tryz.prog 27 #[a0] w (fun e w' => (n = 0 ∧ RetRN (sharesL l) w e w') ∨ (n ≠ 0 ∧ RetNN n w e w')) := by
  have bb : Below w.heap.size w w := Below.refl _ _
  have sl0 := h0
  obtain ⟨A0, c0, rfl, hc0, hm0⟩ := h0.shape
  unfold maxLen at hm0
  have HNE := Lib.hid hne
  have HLE := Lib.hid hl
  have hln : 0 < l.length := List.length_pos_iff.2 hne
  have hl300 : l.length ≤ 300 := hl
  clear hne
  have hl0 : (((l.length : Nat) : Int) == 0) = false := by rw [beq_eq_false_iff_ne]; omega
  have HR2 : Hid (∀ q ∈ ratsI l, lenQ q 2) := by
    show ∀ q ∈ _, _
    intro q hq
    obtain ⟨z, hz, rfl⟩ := List.mem_map.1 hq
    obtain ⟨_, _, _, _, _, hr, _⟩ := sl0
    exact lenQ_int (hr z hz)
  have HRL : Hid ((ratsI l).length = l.length) := ratsI_len l
  have lsum : lenQ (sumq (ratsI l)) 1000 := (lenQ_sumq HR2.out).mono (by rw [HRL.out]; omega)
  have HN := Lib.hid hnE
  clear hnE
  go_enter Tryz.func27, Tryz.ntmps27
  go_upto_region 1 with (fail)
  have hsz0 := bb.size
  go_wp2_with (at_make; refine wpList_make_q rfl _ _ rfl Tryz.underlying22 info_rat l.length rfl rfl (by omega) ?_; intro w1 RN hb1)
  replace bb := bb.trans (hb1.mono bb.size)
  have hsz1 := bb.size
  have hgl := RN.lt
  obtain ⟨g, hg⟩ : ∃ g, g = w.heap.size := ⟨_, rfl⟩
  rw [← hg] at RN hgl ⊢
  have hg_ : w.heap.size ≤ g := by omega
  clear hg
  have hg := hg_
  clear hg_
  go_wp2
  go_loopw [19] (fun v19 wr => ∃ k : Nat, k ≤ l.length ∧ Hid (∀ z ∈ l.take k, ¬ z < 0) ∧ RowN wr g l.length ((ratsI l).take k) ∧ Below w.heap.size w wr ∧ v19 = .int .i64 (k : Int)) (fun v19 _ => l.length - (intOf v19).toNat)
  case atStart => exact ⟨0, by omega, by show ∀ z ∈ _, _; intro z hz; simp at hz, RN, bb, rfl⟩
  case round =>
    obtain ⟨k, hk, HA, hR, hbw, rfl⟩ := hrel
    clear RN bb hgl
    have RN := hR
    have bb := hbw
    clear hR hbw
    have hszr := bb.size
    have hgl := RN.lt
    by_cases hlt : k < l.length
    · obtain ⟨z, hz_⟩ : ∃ z, l[k]? = some z := ⟨_, List.getElem?_eq_getElem hlt⟩
      obtain ⟨ad_, hA_, _, ec, hz1, hz2⟩ := (sl0.below bb).at_ hz_
      subst hA_
      have HZ_ := Lib.hid hz_
      clear hz_
      by_cases h0 : z < 0
      · have HW : Hid (n = 2) := by show _ = _; rw [HN.out, sharesE, if_neg HNE.out, if_pos ⟨z, List.mem_of_getElem? HZ_.out, h0⟩]
        clear RN
        go_wp2
        go_ret2
        exact .inr ⟨by rw [HW.out]; decide, by rw [HW.out]; rfl, bb⟩
      · have HA2 : Hid (∀ z ∈ l.take (k + 1), ¬ z < 0) := by
          show ∀ z ∈ _, _
          rw [List.take_add_one, HZ_.out]
          intro r hr
          rcases List.mem_append.1 hr with hr | hr
          · exact HA.out r hr
          · obtain rfl : r = z := by simpa using hr
            exact h0
        have HH0 := Lib.hid h0
        have h0b : decide (z < 0) = false := decide_eq_false h0
        clear h0
        have HQZ : Hid (((z : Int) : Rat) = mkRat z 1) := ratsI_int z
        have HTK : Hid ((ratsI l).take (k + 1) = (ratsI l).take k ++ [mkRat z 1]) := take_snoc (ratsI_at HZ_.out)
        have HLK : Hid (k = ((ratsI l).take k).length) := by show _ = _; rw [List.length_take, HRL.out]; omega
        have hcell := ec
        have sB := bb.size
        go_upto_region 6 with (fail)
        refine flowp 5 [Pd.eq (.int .i64 (k : Int)), Pd.eq (.pointer (some (ad_.add k))), Pd.eq (.int .i64 z), Pd.eq (.int .i64 (k : Int)), Pd.eq (.int .i64 z)] (by kernel_rfl) ?ob1 ?done1
        case ob1 =>
          refine And.intro (ob_move rfl (wt_none rfl) (ev_far rfl rfl) (fun _ _ h => h)) ?_
          refine And.intro (ob_indexAddr rfl (wt_none rfl) (ev_far rfl rfl) (ev_far rfl rfl) (fun _ _ _ hx hy => ⟨_, by rw [hx, hy]; exact index1_any Tryz.underlying36 (by kernel_rfl) ad_ hlt _, rfl⟩)) ?_
          refine And.intro (ob_load rfl (wt_none rfl) (ev_dep (j := 1) (by kernel_rfl) rfl rfl) (fun w2 hb => run_load1 Tryz.underlying3 rfl ((hb.cell (World.block_lt_of_cell? wr _ ec)).trans ec)) (fun _ _ => rfl)) ?_
          refine And.intro (ob_assign rfl (wt_none rfl) (ev_dep (j := 0) (by kernel_rfl) rfl rfl) (fun _ _ h => h)) ?_
          refine And.intro (ob_assign rfl (wt_none rfl) (ev_dep (j := 2) (by kernel_rfl) rfl rfl) (fun _ _ h => h)) ?_
          trivial
        case done1 =>
          refine fun w3 hb3 v0 h0 v1 h1 v2 h2 v3 h3 v4 h4 b hbf => ?_
          obtain rfl := h0; obtain rfl := h1; obtain rfl := h2; obtain rfl := h3; obtain rfl := h4
          simp only [Act.put, List.setIfInBounds_toArray, List.set_cons_zero, List.set_cons_succ] at hbf
          subst hbf
          replace RN := RN.below hb3
          replace bb := bb.trans (hb3.mono bb.size)
          have hsz3 := bb.size
          refine ops_done ?_
          clear ec hcell
          have sB := bb.size
          go_upto_region 9 with (fail)
          refine flowp 5 [Pd.eq (.slice (some ⟨g, 0, none⟩) l.length l.length), Pd.eq (.int .i64 (k : Int)), Pd.eq (.int .i64 z), pq (mkRat z 1) w3.heap.size, Pd.eq (.pointer (some ⟨g, 0 + k * 3, none⟩))] (by kernel_rfl) ?ob2 ?done2
          case ob2 =>
            refine And.intro (ob_move rfl (wt_none rfl) (ev_far rfl rfl) (fun _ _ h => h)) ?_
            refine And.intro (ob_move rfl (wt_none rfl) (ev_far rfl rfl) (fun _ _ h => h)) ?_
            refine And.intro (ob_move rfl (wt_none rfl) (ev_far rfl rfl) (fun _ _ h => h)) ?_
            refine And.intro (ob_call1 rfl Tryz.func45 (by kernel_rfl) (wt_none rfl) (ev_dep (j := 2) (by kernel_rfl) rfl rfl) (fun w2 u0 hb h0 => by obtain rfl := h0; exact (HQZ.out ▸ of8_any z _ hz1 hz2).mono fun e w3 h => RetQ.pd h hb.size)) ?_
            refine And.intro (ob_indexAddr rfl (wt_none rfl) (ev_dep (j := 0) (by kernel_rfl) rfl rfl) (ev_dep (j := 1) (by kernel_rfl) rfl rfl) (fun _ _ _ hx hy => ⟨_, by rw [hx, hy]; exact index3 (k := k) Tryz.underlying22 (by kernel_rfl) hlt _, rfl⟩)) ?_
            trivial
          case done2 =>
            refine fun w4 hb4 v0 h0 v1 h1 v2 h2 v3 h3 v4 h4 b hbf => ?_
            obtain rfl := h0; obtain rfl := h1; obtain rfl := h2; obtain rfl := h4
            obtain ⟨q3, f3⟩ := h3
            simp only [Act.put, List.setIfInBounds_toArray, List.set_cons_zero, List.set_cons_succ] at hbf
            subst hbf
            replace RN := RN.below hb4
            replace bb := bb.trans (hb4.mono bb.size)
            have hsz4 := bb.size
            have s_3 := sB
            obtain ⟨u3, t3, rfl, q3, d3⟩ := q3
            obtain ⟨A9, c9, rfl, _⟩ := id q3
            obtain ⟨D9, e9, rfl, _⟩ := id d3
            refine ops_store_q (j := 5) rfl rfl rfl rfl (g := g) (i := k) (q := (mkRat z 1)) rfl rfl (by kernel_rfl) RN hlt q3 d3 fun w5 hg5 hP5 => ?_
            replace bb := bb.trans ((Below.refl _ _).grown hg5 bb.size (fun g hg => by injection hg with hg; omega))
            have hsz5 := bb.size
            replace RN := hP5.1 HLK.out
            clear hP5
            refine ops_done ?_
            rw [← HTK.out] at RN
            go_wp2
            go_roundw
            case rel => exact ⟨k + 1, by omega, HA2, RN, bb, by go_num⟩
            case measure => simp [intOf]; omega
    · have HAL : Hid (∀ z ∈ l, ¬ z < 0) := by have := HA.out; rwa [List.take_of_length_le (by omega)] at this
      have HNN : Hid (¬ ∃ z ∈ l, z < 0) := fun ⟨z, hz, h⟩ => HAL.out z hz h
      rw [List.take_of_length_le (by rw [HRL.out]; omega)] at RN
      have hS := RN.sl HRL.out (by omega)
      obtain ⟨s, hs⟩ : ∃ s, s = sumq (ratsI l) := ⟨_, rfl⟩
      have HS := Lib.hid hs
      rw [← hs] at lsum
      by_cases hs0 : s = 0
      · have HW : Hid (n = 3) := by show _ = _; rw [HN.out, sharesE, if_neg HNE.out, if_neg HNN.out, if_pos (HS.out ▸ hs0)]
        have HZ := Lib.hid hs0
        clear hs0 hs
        have sB := bb.size
        go_upto_region 11 with (fail)
        refine flowp 7 [Pd.eq (.slice (some ⟨g, 0, none⟩) l.length l.length), pqn (s), Pd.eq (.tuple #[.agg #[.bool false, .slice none 0 0, .slice none 0 0], .int .i64 3]), Pd.eq (.tuple #[.agg #[.bool false, .slice none 0 0, .slice none 0 0], .int .i64 3]), Pd.eq (.agg #[.bool false, .slice none 0 0, .slice none 0 0]), Pd.eq (.int .i64 3), pn 28 #[.bool false, .slice none 0 0, .slice none 0 0] wr.heap.size] (by kernel_rfl) ?ob3 ?done3
        case ob3 =>
          refine And.intro (ob_move rfl (wt_none rfl) (ev_far rfl rfl) (fun _ _ h => h)) ?_
          refine And.intro (ob_call1 rfl Tryz.func12 (by kernel_rfl) (wt_none rfl) (ev_dep (j := 0) (by kernel_rfl) rfl rfl) (fun w2 u0 hb h0 => by obtain rfl := h0; exact (HS.out ▸ fsum_any _ (ratsI l) 2 _ (hS.below hb) ⟨HR2.out, by rw [HRL.out]; omega⟩).mono fun e w3 h => RetQn.pd h)) ?_
          refine And.intro (ob_call1 rfl Tryz.func60 (by kernel_rfl) (wt_none rfl) (ev_dep (j := 1) (by kernel_rfl) rfl rfl) (fun w2 u0 hb h0 => by exact (finv_zero _ s _ h0 HZ.out).mono fun e w3 h => RetQN.pd h)) ?_
          refine And.intro (ob_move rfl (wt_none rfl) (ev_dep (j := 2) (by kernel_rfl) rfl rfl) (fun _ _ h => h)) ?_
          refine And.intro (ob_extract rfl (wt_none rfl) (ev_dep (j := 3) (by kernel_rfl) rfl rfl) (fun w2 u hu => by obtain rfl := hu; exact ⟨_, rfl, rfl⟩)) ?_
          refine And.intro (ob_extract rfl (wt_none rfl) (ev_dep (j := 3) (by kernel_rfl) rfl rfl) (fun w2 u hu => by obtain rfl := hu; exact ⟨_, rfl, rfl⟩)) ?_
          refine And.intro (ob_alloc (z := .agg #[.bool false, .slice none 0 0, .slice none 0 0]) rfl rfl (fun _ => by kernel_rfl) (fun _ _ hB h => ⟨_, rfl, hB, h⟩)) ?_
          trivial
        case done3 =>
          refine fun w3 hb3 v0 h0 v1 h1 v2 h2 v3 h3 v4 h4 v5 h5 v6 h6 d6 b hbf => ?_
          obtain rfl := h0; obtain rfl := h2; obtain rfl := h3; obtain rfl := h4; obtain rfl := h5
          have q1 := h1
          obtain ⟨g3_6, rfl, hg6, B6⟩ := h6
          simp only [Act.put, List.setIfInBounds_toArray, List.set_cons_zero, List.set_cons_succ] at hbf
          subst hbf
          replace RN := RN.below hb3
          replace hS := hS.below hb3
          replace bb := bb.trans (hb3.mono bb.size)
          have hsz3 := bb.size
          have BA7 := B6
          refine ops_store (i := 7) rfl rfl rfl rfl rfl rfl (cells := [.bool false, .slice none 0 0, .slice none 0 0]) rfl BA7 rfl (by kernel_rfl) (one3 rfl rfl rfl) fun w4 hg4 BN4 => ?_
          replace bb := bb.trans ((Below.refl _ _).grown hg4 bb.size (fun g hg => by injection hg with hg; omega))
          have hsz4 := bb.size
          replace BA7 : Blk w4 (g3_6) _ #[.bool false, .slice none 0 0, .slice none 0 0] := BN4
          refine ops_assign (i := 8) (.int .i64 3) rfl rfl rfl rfl rfl fun b hbf => ?_
          simp only [Act.put, List.setIfInBounds_toArray, List.set_cons_zero, List.set_cons_succ] at hbf
          subst hbf
          refine ops_done ?_
          go_wp2
          go_ret2
          exact .inr ⟨by rw [HW.out]; decide, by rw [HW.out]; rfl, bb⟩
      · have HW : Hid (n = 0) := by show _ = _; rw [HN.out, sharesE, if_neg HNE.out, if_neg HNN.out, if_neg (HS.out ▸ hs0)]
        have HZ := Lib.hid hs0
        have HDV : Hid (∀ q : Rat, q * s⁻¹ = q / s) := fun q => (Rat.div_def q s).symm
        have HSL : Hid (sharesL l = (ratsI l).map (· / s)) := by show _ = _; rw [sharesL, HS.out]
        have HLL : Hid ((sharesL l).length = (ratsI l).length) := by show _ = _; rw [HSL.out, List.length_map]
        clear hs0 hs
        have sB := bb.size
        go_upto_region 11 with (fail)
        refine flowp 7 [Pd.eq (.slice (some ⟨g, 0, none⟩) l.length l.length), pqn (s), pqe (s⁻¹) 0, pqe (s⁻¹) 0, pqn (s⁻¹), Pd.eq (.int .i64 0), pn 28 #[.bool false, .slice none 0 0, .slice none 0 0] wr.heap.size] (by kernel_rfl) ?ob4 ?done4
        case ob4 =>
          refine And.intro (ob_move rfl (wt_none rfl) (ev_far rfl rfl) (fun _ _ h => h)) ?_
          refine And.intro (ob_call1 rfl Tryz.func12 (by kernel_rfl) (wt_none rfl) (ev_dep (j := 0) (by kernel_rfl) rfl rfl) (fun w2 u0 hb h0 => by obtain rfl := h0; exact (HS.out ▸ fsum_any _ (ratsI l) 2 _ (hS.below hb) ⟨HR2.out, by rw [HRL.out]; omega⟩).mono fun e w3 h => RetQn.pd h)) ?_
          refine And.intro (ob_call1 rfl Tryz.func60 (by kernel_rfl) (wt_none rfl) (ev_dep (j := 1) (by kernel_rfl) rfl rfl) (fun w2 u0 hb h0 => by exact (finv_ok _ s _ h0 lsum HZ.out).mono fun e w3 h => RetQE.pd h)) ?_
          refine And.intro (ob_move rfl (wt_none rfl) (ev_dep (j := 2) (by kernel_rfl) rfl rfl) (fun _ _ h => h)) ?_
          refine And.intro (ob_extract rfl (wt_none rfl) (ev_dep (j := 3) (by kernel_rfl) rfl rfl) (fun w2 u hu => by obtain ⟨v, rfl, q1⟩ := hu; exact ⟨v, rfl, q1⟩)) ?_
          refine And.intro (ob_extract rfl (wt_none rfl) (ev_dep (j := 3) (by kernel_rfl) rfl rfl) (fun w2 u hu => by obtain ⟨v, rfl, q1⟩ := hu; exact ⟨_, rfl, rfl⟩)) ?_
          refine And.intro (ob_alloc (z := .agg #[.bool false, .slice none 0 0, .slice none 0 0]) rfl rfl (fun _ => by kernel_rfl) (fun _ _ hB h => ⟨_, rfl, hB, h⟩)) ?_
          trivial
        case done4 =>
          refine fun w3 hb3 v0 h0 v1 h1 v2 h2 v3 h3 v4 h4 v5 h5 v6 h6 d6 b hbf => ?_
          obtain rfl := h0; obtain rfl := h5
          have q1 := h1
          clear h2
          clear h3
          have q4 := h4
          obtain ⟨g4_6, rfl, hg6, B6⟩ := h6
          simp only [Act.put, List.setIfInBounds_toArray, List.set_cons_zero, List.set_cons_succ] at hbf
          subst hbf
          replace RN := RN.below hb3
          replace hS := hS.below hb3
          replace bb := bb.trans (hb3.mono bb.size)
          have hsz3 := bb.size
          have BA7 := B6
          obtain ⟨u4, t4, rfl, q4, d4⟩ := q4
          obtain ⟨A7, c7, rfl, _⟩ := id q4
          obtain ⟨D7, e7, rfl, _⟩ := id d4
          refine ops_store (i := 7) rfl rfl rfl rfl rfl rfl (cells := [.bool (ngB (s⁻¹).num), .slice A7 (digs 4294967296 (s⁻¹).num.natAbs).length c7, .slice D7 (digs 4294967296 (s⁻¹).den).length e7]) rfl BA7 rfl (by kernel_rfl) (one3 rfl rfl rfl) fun w4 hg4 BN4 => ?_
          replace q4 := off q4 BA7 no_ints3 hg4
          replace d4 := off d4 BA7 no_ints3 hg4
          replace RN := RowN.offb RN BA7 no_ints3 hg4 (by omega)
          replace bb := bb.trans ((Below.refl _ _).grown hg4 bb.size (fun g hg => by injection hg with hg; omega))
          have hsz4 := bb.size
          have B7 : Blk w4 (g4_6) _ _ := BN4
          have k7s := q4
          have k7d := d4
          have k7z : IsZ w4 (.agg #[.bool (ngB (s⁻¹).num), .slice A7 (digs 4294967296 (s⁻¹).num.natAbs).length c7]) ((s⁻¹).num) := ⟨_, rfl, k7s⟩
          have k7 : IsQ w4 (.agg #[.bool (ngB (s⁻¹).num), .slice A7 (digs 4294967296 (s⁻¹).num.natAbs).length c7, .slice D7 (digs 4294967296 (s⁻¹).den).length e7]) (s⁻¹) := ⟨_, _, rfl, k7s, k7d⟩
          refine ops_assign (i := 8) (.int .i64 0) rfl rfl rfl rfl rfl fun b hbf => ?_
          simp only [Act.put, List.setIfInBounds_toArray, List.set_cons_zero, List.set_cons_succ] at hbf
          subst hbf
          refine ops_done ?_
          have linv : lenQ s⁻¹ 1000 := lenQ_inv HZ.out lsum
          have hne7 : g ≠ g4_6 := by omega
          go_wp2
          go_loopw [43] (fun v43 wr => ∃ k : Nat, k ≤ l.length ∧ RowN wr g l.length ((sharesL l).take k ++ (ratsI l).drop k) ∧ HoldQ wr g4_6 s⁻¹ ∧ Below w.heap.size w wr ∧ v43 = .int .i64 (k : Int)) (fun v43 _ => l.length - (intOf v43).toNat)
          case atStart => exact ⟨0, by omega, by simpa using RN, ⟨_, _, B7, k7s, k7d⟩, bb, rfl⟩
          case round =>
            obtain ⟨k, hk, hR, hH, hbw, rfl⟩ := hrel
            clear RN bb hgl B7 k7s k7d k7z k7
            have RN := hR
            have bb := hbw
            clear hR hbw
            have hszr := bb.size
            have hgl := RN.lt
            obtain ⟨u7, t7, B7, k7s, k7d⟩ := hH
            obtain ⟨A7, c7, rfl, _⟩ := id k7s
            obtain ⟨D7, e7, rfl, _⟩ := id k7d
            have k7z : IsZ wr (.agg #[.bool (ngB ((s⁻¹)).num), .slice A7 (digs 4294967296 ((s⁻¹)).num.natAbs).length c7]) ((s⁻¹)).num := ⟨_, rfl, k7s⟩
            have k7 : IsQ wr (.agg #[.bool (ngB ((s⁻¹)).num), .slice A7 (digs 4294967296 ((s⁻¹)).num.natAbs).length c7, .slice D7 (digs 4294967296 ((s⁻¹)).den).length e7]) ((s⁻¹)) := ⟨_, _, rfl, k7s, k7d⟩
            have hG7 := B7.lt
            by_cases hlt2 : k < l.length
            · obtain ⟨q, hq⟩ : ∃ q, (ratsI l)[k]? = some q := ⟨_, List.getElem?_eq_getElem (by rw [HRL.out]; exact hlt2)⟩
              have lq : lenQ q 2 := HR2.out q (List.mem_of_getElem? hq)
              have HAT : Hid (((sharesL l).take k ++ (ratsI l).drop k)[k]? = some q) := front_at hq HLL.out
              have HSK : Hid ((sharesL l)[k]? = some (q * s⁻¹)) := by show _ = _; rw [HSL.out, List.getElem?_map, hq, HDV.out]; rfl
              have HFS : Hid (((sharesL l).take k ++ (ratsI l).drop k).set k (q * s⁻¹) = (sharesL l).take (k + 1) ++ (ratsI l).drop (k + 1)) := front_set HSK.out HLL.out
              have HFL : Hid (k < ((sharesL l).take k ++ (ratsI l).drop k).length) := by show _ < _; rw [front_len _ _ _ HLL.out, HRL.out]; exact hlt2
              clear hq
              obtain ⟨uq, tq, hltq, zq0, zq1, zq2, zqs, zqd⟩ := RN.at_ HAT.out
              obtain ⟨Aq, cq, rfl, _⟩ := id zqs
              obtain ⟨Dq, eq, rfl, _⟩ := id zqd
              have zq : IsQ wr (.agg #[.bool (ngB (q).num), .slice Aq (digs 4294967296 (q).num.natAbs).length cq, .slice Dq (digs 4294967296 (q).den).length eq]) (q) := ⟨_, _, rfl, zqs, zqd⟩
              have sB := bb.size
              go_upto_region 16 with (fail)
              have lt5_7 := Blk.lt B7
              refine flowp 5 [Pd.eq (.int .i64 (k : Int)), Pd.eq (.pointer (some ⟨g, 0 + k * 3, none⟩)), Pd.eq (.agg #[.bool (ngB (q).num), .slice Aq (digs 4294967296 (q).num.natAbs).length cq, .slice Dq (digs 4294967296 (q).den).length eq]), pn 28 #[.bool false, .slice none 0 0, .slice none 0 0] wr.heap.size, Pd.eq (.int .i64 (k : Int))] (by kernel_rfl) ?ob5 ?done5
              case ob5 =>
                refine And.intro (ob_move rfl (wt_none rfl) (ev_far rfl rfl) (fun _ _ h => h)) ?_
                refine And.intro (ob_indexAddr rfl (wt_none rfl) (ev_far rfl rfl) (ev_far rfl rfl) (fun _ _ _ hx hy => ⟨_, by rw [hx, hy]; exact index3 (k := k) Tryz.underlying22 (by kernel_rfl) hltq _, rfl⟩)) ?_
                refine And.intro (ob_load rfl (wt_none rfl) (ev_dep (j := 1) (by kernel_rfl) rfl rfl) (fun w2 hb => load3 Tryz.underlying28 rfl (by kernel_rfl) ((hb.cell (World.block_lt_of_cell? wr _ zq0)).trans zq0) ((hb.cell (World.block_lt_of_cell? wr _ zq1)).trans zq1) ((hb.cell (World.block_lt_of_cell? wr _ zq2)).trans zq2)) (fun _ _ => rfl)) ?_
                refine And.intro (ob_alloc (z := .agg #[.bool false, .slice none 0 0, .slice none 0 0]) rfl rfl (fun _ => by kernel_rfl) (fun _ _ hB h => ⟨_, rfl, hB, h⟩)) ?_
                refine And.intro (ob_assign rfl (wt_none rfl) (ev_dep (j := 0) (by kernel_rfl) rfl rfl) (fun _ _ h => h)) ?_
                trivial
              case done5 =>
                refine fun w6 hb6 v0 h0 v1 h1 v2 h2 v3 h3 d3 v4 h4 b hbf => ?_
                obtain rfl := h0; obtain rfl := h1; obtain rfl := h2; obtain rfl := h4
                obtain ⟨g5_3, rfl, hg3, B3⟩ := h3
                simp only [Act.put, List.setIfInBounds_toArray, List.set_cons_zero, List.set_cons_succ] at hbf
                subst hbf
                replace B7 := B7.below hb6
                replace k7s := k7s.below hb6
                replace k7d := k7d.below hb6
                replace k7z := k7z.below hb6
                replace k7 := k7.below hb6
                replace RN := RN.below hb6
                replace zqs := zqs.below hb6
                replace zqd := zqd.below hb6
                replace bb := bb.trans (hb6.mono bb.size)
                have hsz6 := bb.size
                have BA10 := B3
                have q2 := zqs
                have d2 := zqd
                refine ops_store (i := 5) rfl rfl rfl rfl rfl rfl (cells := [.bool (ngB (q).num), .slice Aq (digs 4294967296 (q).num.natAbs).length cq, .slice Dq (digs 4294967296 (q).den).length eq]) rfl BA10 rfl (by kernel_rfl) (one3 rfl rfl rfl) fun w7 hg7 BN7 => ?_
                replace q2 := off q2 BA10 no_ints3 hg7
                replace d2 := off d2 BA10 no_ints3 hg7
                replace RN := RowN.offb RN BA10 no_ints3 hg7 (by omega)
                replace k7s := off k7s BA10 no_ints3 hg7
                replace k7d := off k7d BA10 no_ints3 hg7
                replace k7z : IsZ w7 (.agg #[.bool (ngB ((s⁻¹)).num), .slice A7 (digs 4294967296 ((s⁻¹)).num.natAbs).length c7]) (((s⁻¹)).num) := ⟨_, rfl, k7s⟩
                replace k7 : IsQ w7 (.agg #[.bool (ngB ((s⁻¹)).num), .slice A7 (digs 4294967296 ((s⁻¹)).num.natAbs).length c7, .slice D7 (digs 4294967296 ((s⁻¹)).den).length e7]) ((s⁻¹)) := ⟨_, _, rfl, k7s, k7d⟩
                replace B7 := B7.grown hg7 (by omega)
                replace bb := bb.trans ((Below.refl _ _).grown hg7 bb.size (fun g hg => by injection hg with hg; omega))
                have hsz7 := bb.size
                have Bq : Blk w7 (g5_3) _ _ := BN7
                have kqs := q2
                have kqd := d2
                have kqz : IsZ w7 (.agg #[.bool (ngB (q).num), .slice Aq (digs 4294967296 (q).num.natAbs).length cq]) ((q).num) := ⟨_, rfl, kqs⟩
                have kq : IsQ w7 (.agg #[.bool (ngB (q).num), .slice Aq (digs 4294967296 (q).num.natAbs).length cq, .slice Dq (digs 4294967296 (q).den).length eq]) (q) := ⟨_, _, rfl, kqs, kqd⟩
                refine ops_done ?_
                have sB := bb.size
                go_upto_region 17 with (fail)
                refine flowp 6 [Pd.eq (.slice (some ⟨g, 0, none⟩) l.length l.length), Pd.eq (.int .i64 (k : Int)), Pd.eq (.agg #[.bool (ngB (q).num), .slice Aq (digs 4294967296 (q).num.natAbs).length cq, .slice Dq (digs 4294967296 (q).den).length eq]), Pd.eq (.agg #[.bool (ngB ((s⁻¹)).num), .slice A7 (digs 4294967296 ((s⁻¹)).num.natAbs).length c7, .slice D7 (digs 4294967296 ((s⁻¹)).den).length e7]), pq ((q * s⁻¹)) w7.heap.size, Pd.eq (.pointer (some ⟨g, 0 + k * 3, none⟩))] (by kernel_rfl) ?ob6 ?done6
                case ob6 =>
                  refine And.intro (ob_move rfl (wt_none rfl) (ev_far rfl rfl) (fun _ _ h => h)) ?_
                  refine And.intro (ob_move rfl (wt_none rfl) (ev_far rfl rfl) (fun _ _ h => h)) ?_
                  refine And.intro (ob_load rfl (wt_none rfl) (ev_far rfl rfl) (fun w2 hb => run_loadAll Tryz.underlying28 rfl (by kernel_rfl) (Bq.below hb)) (fun _ _ => rfl)) ?_
                  refine And.intro (ob_load rfl (wt_none rfl) (ev_far rfl rfl) (fun w2 hb => run_loadAll Tryz.underlying28 rfl (by kernel_rfl) (B7.below hb)) (fun _ _ => rfl)) ?_
                  refine And.intro (ob_call2 rfl Tryz.func49 (by kernel_rfl) (wt_none rfl) (ev_dep (j := 2) (by kernel_rfl) rfl rfl) (ev_dep (j := 3) (by kernel_rfl) rfl rfl) (fun w2 u0 u1 hb h0 h1 => by obtain rfl := h0; obtain rfl := h1; exact (mul8_any _ q _ s⁻¹ _ (kq.below hb) (k7.below hb) (lq.mono (by decide)) (linv.mono (by decide))).mono fun e w3 h => RetQ.pd h hb.size)) ?_
                  refine And.intro (ob_indexAddr rfl (wt_none rfl) (ev_dep (j := 0) (by kernel_rfl) rfl rfl) (ev_dep (j := 1) (by kernel_rfl) rfl rfl) (fun _ _ _ hx hy => ⟨_, by rw [hx, hy]; exact index3 (k := k) Tryz.underlying22 (by kernel_rfl) hlt2 _, rfl⟩)) ?_
                  trivial
                case done6 =>
                  refine fun w8 hb8 v0 h0 v1 h1 v2 h2 v3 h3 v4 h4 v5 h5 b hbf => ?_
                  obtain rfl := h0; obtain rfl := h1; obtain rfl := h2; obtain rfl := h3; obtain rfl := h5
                  obtain ⟨q4, f4⟩ := h4
                  simp only [Act.put, List.setIfInBounds_toArray, List.set_cons_zero, List.set_cons_succ] at hbf
                  subst hbf
                  replace B7 := B7.below hb8
                  replace k7s := k7s.below hb8
                  replace k7d := k7d.below hb8
                  replace k7z := k7z.below hb8
                  replace k7 := k7.below hb8
                  replace Bq := Bq.below hb8
                  replace kqs := kqs.below hb8
                  replace kqd := kqd.below hb8
                  replace kqz := kqz.below hb8
                  replace kq := kq.below hb8
                  replace RN := RN.below hb8
                  replace bb := bb.trans (hb8.mono bb.size)
                  have hsz8 := bb.size
                  have s_4 := sB
                  obtain ⟨u4, t4, rfl, q4, d4⟩ := q4
                  obtain ⟨A9, c9, rfl, _⟩ := id q4
                  obtain ⟨D9, e9, rfl, _⟩ := id d4
                  refine ops_store_q (j := 6) rfl rfl rfl rfl (g := g) (i := k) (q := (q * s⁻¹)) rfl rfl (by kernel_rfl) RN hlt2 q4 d4 fun w9 hg9 hP9 => ?_
                  replace k7s := RN.keep hg9 k7s
                  replace k7d := RN.keep hg9 k7d
                  replace k7z : IsZ w9 (.agg #[.bool (ngB ((s⁻¹)).num), .slice A7 (digs 4294967296 ((s⁻¹)).num.natAbs).length c7]) (((s⁻¹)).num) := ⟨_, rfl, k7s⟩
                  replace k7 : IsQ w9 (.agg #[.bool (ngB ((s⁻¹)).num), .slice A7 (digs 4294967296 ((s⁻¹)).num.natAbs).length c7, .slice D7 (digs 4294967296 ((s⁻¹)).den).length e7]) ((s⁻¹)) := ⟨_, _, rfl, k7s, k7d⟩
                  replace B7 := B7.grown hg9 (by omega)
                  replace kqs := RN.keep hg9 kqs
                  replace kqd := RN.keep hg9 kqd
                  replace kqz : IsZ w9 (.agg #[.bool (ngB (q).num), .slice Aq (digs 4294967296 (q).num.natAbs).length cq]) ((q).num) := ⟨_, rfl, kqs⟩
                  replace kq : IsQ w9 (.agg #[.bool (ngB (q).num), .slice Aq (digs 4294967296 (q).num.natAbs).length cq, .slice Dq (digs 4294967296 (q).den).length eq]) (q) := ⟨_, _, rfl, kqs, kqd⟩
                  replace Bq := Bq.grown hg9 (by omega)
                  replace bb := bb.trans ((Below.refl _ _).grown hg9 bb.size (fun g hg => by injection hg with hg; omega))
                  have hsz9 := bb.size
                  replace RN := hP9.2 HFL.out
                  clear hP9
                  refine ops_done ?_
                  rw [HFS.out] at RN
                  have hsk : l.length - (k + 1) < l.length - k := by omega
                  go_wp2
                  go_roundw
                  case rel => exact ⟨k + 1, by omega, RN, ⟨_, _, B7, k7s, k7d⟩, bb, by go_num⟩
                  case measure => simp [intOf]; omega
            · have HE : Hid ((sharesL l).take k ++ (ratsI l).drop k = sharesL l) := by
                show _ = _
                rw [List.take_of_length_le (by rw [HLL.out, HRL.out]; omega), List.drop_eq_nil_of_le (by rw [HRL.out]; omega), List.append_nil]
              rw [HE.out] at RN
              have HLS : Hid ((sharesL l).length = l.length) := by show _ = _; rw [HLL.out, HRL.out]
              rw [← HLS.out] at RN
              go_wp2
              go_ret2
              exact .inl ⟨HW.out, g, by rw [HLS.out]; rfl, RN, hg, bb⟩
/-- Shares of any weights. -/
theorem fshares_both (a0 : Value) (l : List Int) (w : World) (h0 : IsI w a0 l) (hl : l.length ≤ 300) : Calls Tryz.prog 27 #[a0] w (fun e w' => (sharesE l = 0 ∧ RetRN (sharesL l) w e w') ∨ (sharesE l ≠ 0 ∧ RetNN (sharesE l) w e w')) := by
  by_cases h : l = []
  · subst h; exact (fshares_nil a0 w h0).mono fun e w' k => .inr ⟨by decide, k⟩
  · exact fshares_some a0 l _ w h0 h hl rfl
theorem fshares_any (a0 : Value) (l : List Int) (w : World) (h0 : IsI w a0 l) (hl : l.length ≤ 300) : Calls Tryz.prog 27 #[a0] w (RetQLE (sharesL l) (sharesE l) w) :=
  (fshares_both a0 l w h0 hl).mono fun e w' k => by
    rcases k with ⟨h, g, he, hR, _, hb⟩ | ⟨h, he, hb⟩
    · exact ⟨_, by rw [he, h], by rw [if_pos h]; exact hR.sl rfl (by rw [sharesL_len]; omega), hb⟩
    · exact ⟨_, he, by rw [if_neg h]; exact slF_nil _ _ _, hb⟩
end Go.Proofs.YtlnmoledijlemaaGreat.rat
namespace Go.Proofs.YtlnmoledijlemaaGreat.flow
open Go.RowKit Go.Proofs.YtlnmoledijlemaaGreat.num Go.Proofs.YtlnmoledijlemaaGreat.mem Go.Proofs.YtlnmoledijlemaaGreat.rat
set_option linter.unusedVariables false
/-- An empty row of the call's own; these ints. -/
def Row0 (w : World) (B : Nat) (e : TypeId) (v : Value) : Prop := ∃ g, v = .slice (some ⟨g, 0, none⟩) 0 0 ∧ RowV w B e v []
def prow (e : TypeId) (B : Nat) : Pd := ⟨fun w v => Row0 w B e v, fun h hb => by obtain ⟨g, h1, h2⟩ := h; exact ⟨g, h1, h2.below hb⟩⟩
def pil (l : List Int) : Pd := ⟨fun w v => IsI w v l, fun h hb => h.below hb⟩
section
variable {P : Program} {Q : Exit → Act → World → Prop} {ops : Array Oper} {L : List Oper} {Φ : List Pd} {w0 : World} {a0 : Act} {i : Nat} {o : Oper}
theorem ob_row0 {t e : TypeId} (hop : o.op = .buildSlice t 0 #[]) (hg : o.guard = none) (hu : P.underlying t = some (.slice e)) (hI : (P.info? e).isSome = true) (hF : ∀ w v, w0.heap.size ≤ w.heap.size → Row0 w w0.heap.size e v → (ph Φ i).p w v) : Ob P Q ops L Φ w0 a0 i o := by
  intro ms w hS
  rw [if_pos (wt_none (ops := ops) (L := L) (Φ := Φ) (w0 := w0) (a0 := a0) hg ms w hS)]
  obtain ⟨inf, hi⟩ := Option.isSome_iff_exists.1 hI
  have hr : (execOp (putM a0 L ms).eval o).run P w = .ok (.value (.slice (some ⟨w.heap.size, 0, none⟩) 0 0)) (w.alloc (.cells #[] e)) := by
    unfold execOp
    simp [hop, go_sem, run_underlying hu, sizeOf, typeInfo, hi, newRow]
  unfold Oper.wp
  rw [hr]
  exact ⟨_, rfl, below_alloc (Nat.le_refl _) _, hF _ _ (Nat.le_trans hS.below.size (by simp)) ⟨_, rfl, rowV_lit0 w w0.heap.size e hS.below.size⟩, fun h => by unfold isA at h; rw [hop] at h; cases h⟩
/-- An append to an empty row of no room: a new row, or none. -/
theorem run_append_row0 {w : World} {base g : Nat} {t ty e : TypeId} (hT : P.underlying t = some (.slice e)) (hI : ∃ i, P.info? e = some i ∧ i.zero = some (.int .i64 0) ∧ i.size = 1 ∧ i.bytes = 8) {news : List Value} (hown : RowV w base e (.slice (some ⟨g, 0, none⟩) 0 0) []) {A : Option Addr} {m c : Nat} (hm : m = news.length)
    (hr : ∀ (i : Nat) (u : Value), news[i]? = some u → ∃ ad, A = some ad ∧ w.cell? (ad.add i) = some u) (h1 : ∀ u ∈ news, u.oneCell' = true) (hlen : m ≤ 1000) (hbase : base ≤ w.heap.size) :
    ∃ v' w', (Builtin.append_ #[t, t] ty #[.slice (some ⟨g, 0, none⟩) 0 0, .slice A m c]).run P w = .ok v' w' ∧ RowV w' base e v' news ∧ Below w.heap.size w w' := by
  obtain ⟨inf, hi, hz, hs, hb⟩ := id hI
  subst hm
  rcases news with _ | ⟨d, news⟩
  · refine ⟨.slice (some ⟨g, 0, none⟩) 0 0, w, ?_, hown, Below.refl _ _⟩
    cases A <;> simp [Builtin.append_, run_underlying hT, sizeOf, typeInfo, hi, Builtin.lenOf, Builtin.firstCells, loadCells, loadCellsFrom, storeCells]
  · obtain ⟨ad, rfl, _⟩ := hr 0 d rfl
    have hcells : ∀ j u, (d :: news)[j]? = some u → w.cell? (ad.add j) = some u := by
      intro j u hu
      obtain ⟨ad', h, hc⟩ := hr j u hu
      injection h with h; subst h; exact hc
    obtain ⟨v', w', g1, g2, _⟩ := run_append_own_at (P := P) w base t ty e inf (.int .i64 0) 1 8 hT hi hz hs hb rfl (by decide) _ 0 [] hown ad (d :: news).length c (d :: news) (by simp) hcells h1 (by unfold maxLen; omega) (by omega) hbase
    have hg := run_append_grow (P := P) w t ty e inf (.int .i64 0) hT hi hz ⟨g, 0, none⟩ 0 0 [] (by simp) (by intro j u h; simp at h) ad (d :: news).length c (d :: news) (by rw [hs]; simp) hcells (by simp) (by have := hlen; omega) (growslice_fits (by simp) (by have := hlen; rw [hb]; omega))
    rw [hg] at g1
    injection g1 with e1 e2
    refine ⟨v', w', by rw [hg, e1, e2], by simpa [RowV] using g2, ?_⟩
    rw [← e2]
    exact (Below.refl _ w).drew.alloc (by simp) _
theorem ob_append_int {s x : Operand} {t e : TypeId} {l : List Int} (hop : o.op = .call { callee := .builtin .append, args := #[s, x], argTypes := #[t, t] }) {F G : World → Value → Prop} (hw : Wt ops L Φ w0 a0 o true) (hs : Ev L Φ w0 a0 o s F) (hx : Ev L Φ w0 a0 o x G) (hsF : ∀ w v, F w v → Row0 w w0.heap.size e v) (hxG : ∀ w v, Below w0.heap.size w0 w → G w v → IsI w v l)
    (hT : P.underlying t = some (.slice e)) (hI : ∃ i, P.info? e = some i ∧ i.zero = some (.int .i64 0) ∧ i.size = 1 ∧ i.bytes = 8) (hl : l.length ≤ 1000) (hF : ∀ w v, IsI w v l → (ph Φ i).p w v) : Ob P Q ops L Φ w0 a0 i o := by
  intro ms w hS
  rw [if_pos (hw ms w hS)]
  have h1 := hsF _ _ (hs ms w hS)
  have h2 := hxG _ _ hS.below (hx ms w hS)
  generalize hu : (putM a0 L ms).eval x = u at h2
  obtain ⟨A, c, rfl, _, _⟩ := h2.shape
  have hzb : ∀ z ∈ l, -9223372036854775808 ≤ z ∧ z ≤ 9223372036854775807 := by obtain ⟨_, _, _, _, _, hz, _⟩ := h2; exact hz
  obtain ⟨g, hv, hrow⟩ := h1
  generalize hsv : (putM a0 L ms).eval s = sv at hv hrow
  subst hv
  obtain ⟨v', w', hrun, hr, hb⟩ := run_append_row0 (P := P) (ty := o.type) hT hI hrow (c := c) (by rw [vi_len]) h2.news (vi_one l) (by omega) hS.below.size
  unfold Oper.wp execOp
  simp only [hop, resolve, invoke, builtin, Sem.run_bind, Sem.run_pure, Result.andThen_ok, List.map_toArray, List.map_cons, List.map_nil, hsv, hu, hrun]
  exact ⟨v', rfl, hb, hF _ _ (RowV.isI hr hzb), fun h => by unfold isA at h; rw [hop] at h; cases h⟩
end
end Go.Proofs.YtlnmoledijlemaaGreat.flow
namespace Go.Proofs.YtlnmoledijlemaaGreat.rat
open Go.RowKit Go.Proofs.YtlnmoledijlemaaGreat.num Go.Proofs.YtlnmoledijlemaaGreat.mem Go.Proofs.YtlnmoledijlemaaGreat.nat Go.Proofs.YtlnmoledijlemaaGreat.txt Go.Proofs.YtlnmoledijlemaaGreat.str Go.Proofs.YtlnmoledijlemaaGreat.flow Go.Proofs.YtlnmoledijlemaaGreat.whl
theorem IsI.drew {w : World} {v : Value} {l : List Int} (h : IsI w v l) : IsI w.drew v l := h
theorem IsI.off {w w' : World} {v : Value} {l : List Int} {g : Nat} {e : TypeId} {cs : Array Value} (h : IsI w v l) (hB : w.heap[g]? = some (.cells cs e (0, 0))) (hno : ∀ c ∈ cs, ∀ n, c ≠ .int .i64 n) (hg : w.grownBy w' (some g)) : IsI w' v l := by
  obtain ⟨A, c, rfl, h1, h2, h3, h4⟩ := h
  refine ⟨A, c, rfl, h1, h2, h3, fun i z hz => ?_⟩
  obtain ⟨ad, rfl, hc⟩ := h4 i z hz
  refine ⟨ad, rfl, hg.cell hc fun e1 => ?_⟩
  injection e1 with e1
  have hcell : ∀ q : Addr, q.block = g → w.cell? q = some (.int .i64 z) → False := by
    intro p hp hpc
    unfold World.cell? at hpc
    rw [hp, hB] at hpc
    simp only [] at hpc
    split at hpc
    · cases hpc
    · exact hno _ (Array.mem_of_getElem? hpc) _ rfl
  exact hcell _ e1 hc
/-- A slice of these, and an error's number. -/
def psl (k : IntKind) (B : Nat) (L : List Rat) (n : Int) : Pd := ⟨fun w t => ∃ V, t = .tuple #[V, .int .i64 n] ∧ SlF k B w V L, fun h hb => by obtain ⟨V, e, h1⟩ := h; exact ⟨V, e, h1.below hb⟩⟩
def pslv (k : IntKind) (B : Nat) (L : List Rat) : Pd := ⟨fun w v => SlF k B w v L, fun h hb => h.below hb⟩
theorem RetQLE.pd {l : List Rat} {n : Int} {w : World} {e : Ending} {w' : World} (h : RetQLE l n w e w') : RetPd (psl .u64 4294967296 (if n = 0 then l else []) n) w e w' := by
  obtain ⟨V, h1, h2, h3⟩ := h
  exact ⟨_, h1, ⟨V, rfl, h2⟩, h3⟩
theorem RetLE.pd {l : List Rat} {n : Int} {w : World} {e : Ending} {w' : World} (h : RetLE l n w e w') : RetPd (psl .i64 10000 (if n = 0 then l else []) n) w e w' := by
  obtain ⟨V, h1, h2, h3⟩ := h
  exact ⟨_, h1, ⟨V, rfl, h2⟩, h3⟩
theorem shares_len {l : List Int} (hz : ∀ z ∈ l, -9223372036854775808 ≤ z ∧ z ≤ 9223372036854775807) (hl : l.length ≤ 8) (hE : sharesE l = 0) : ∀ s ∈ sharesL l, lenQ s 27 := by
  intro s hs
  obtain ⟨x, hx, rfl⟩ := List.mem_map.1 hs
  obtain ⟨z, hz2, rfl⟩ := List.mem_map.1 hx
  have h0 : sumq (ratsI l) ≠ 0 := by
    intro h
    unfold sharesE at hE
    (repeat' split at hE) <;> first | (exact absurd hE (by decide)) | contradiction
  have h1 : lenQ (sumq (ratsI l)) 25 := (lenQ_sumq (m := 2) (fun q hq => by obtain ⟨z, hz3, rfl⟩ := List.mem_map.1 hq; exact lenQ_int (hz z hz3))).mono (by rw [ratsI_len]; omega)
  exact (lenQ_div h0 (lenQ_int (hz z hz2)) h1).mono (by omega)
theorem zip_take {l m : List Rat} {k : Nat} {x y : Rat} (hx : l[k]? = some x) (hy : m[k]? = some y) : (List.zipWith (· * ·) l m).take (k + 1) = (List.zipWith (· * ·) l m).take k ++ [x * y] := take_snoc (by rw [List.getElem?_zipWith, hx, hy])
end Go.Proofs.YtlnmoledijlemaaGreat.rat
