/- The document's own Clean of fractions. Condition: as it says. -/
import Derived.Test.YtbebmknfecehnaaGreatRatC
namespace Go.Proofs.YtbebmknfecehnaaGreat.rat
open Go.RowKit Go.Proofs.YtbebmknfecehnaaGreat.num Go.Proofs.YtbebmknfecehnaaGreat.mem Go.Proofs.YtbebmknfecehnaaGreat.nat Go.Proofs.YtbebmknfecehnaaGreat.txt Go.Proofs.YtbebmknfecehnaaGreat.str Go.Proofs.YtbebmknfecehnaaGreat.flow Go.Proofs.YtbebmknfecehnaaGreat.whl
set_option linter.unusedVariables false
/-- The fraction that Clean makes of any. -/
def lowD (d : Nat) : Nat := if d = 0 then 1 else d
theorem lowD_pos (d : Nat) : lowD d ≠ 0 := by unfold lowD; split <;> omega
theorem lowD_len {d m : Nat} (h : (digs 4294967296 d).length ≤ m) (hm : 1 ≤ m) : (digs 4294967296 (lowD d)).length ≤ m := by
  unfold lowD
  split
  · exact Nat.le_trans (digs_len_le (k := 1) (by omega) (by omega)) hm
  · exact h
def cleanQ (b : Bool) (l m : List Nat) (most : Nat) : Rat := mkRat (cleanZ b l most) (lowD (cleaned m most))
theorem cleanQ_len (b : Bool) (l m : List Nat) {most : Nat} (hm : 1 ≤ most) : lenQ (cleanQ b l m most) most := lenQ_mk (lowD_pos _) (cleanZ_len _ _ _) (lowD_len (cleaned_len _ _) hm)

set_option maxHeartbeats 6400000 in
set_option maxRecDepth 100000 in
theorem qclean_any (b : Bool) (v u : Value) (l m : List Nat) (mI : Int) (most : Nat) (w : World) (hmI : mI = (most : Int)) (h0 : IsS w .u64 v l) (u0 : Lt 18446744073709551616 l) (h1 : IsS w .u64 u m) (u1 : Lt 18446744073709551616 m) (hmost : most ≤ 1000) (hm1 : 1 ≤ most) :
    Calls Tryz.prog 6 #[.agg #[.bool b, v, u], .int .i64 mI] w (RetQ (cleanQ b l m most) w) := by
  obtain ⟨A0, c0, rfl, _⟩ := id h0
  obtain ⟨D0, e0, rfl, _⟩ := id h1
  have HM := Lib.hid hmI
  clear hmI
  obtain ⟨y, hy⟩ : ∃ y, y = cleaned m most := ⟨_, rfl⟩
  have my : (digs 4294967296 y).length ≤ most := by rw [hy]; exact cleaned_len _ _
  have HY := Lib.hid hy.symm
  obtain ⟨x, hx⟩ : ∃ x, x = cleanZ b l most := ⟨_, rfl⟩
  have lx : lenZ x ≤ most := by rw [hx]; exact cleanZ_len _ _ _
  have HX := Lib.hid hx.symm
  have HQ : Hid (cleanQ b l m most = mkRat x (lowD y)) := by show _ = _; unfold cleanQ; rw [hx, hy]
  clear hx hy
  go_enter Tryz.func6, Tryz.ntmps6
  go_upto_region 1 with (fail)
  obtain ⟨wx, hwx, bb, B0, B1, hsz⟩ := vars2 w 27 27 #[.bool b, .slice A0 l.length c0, .slice D0 m.length e0] #[.bool false, .slice none 0 0, .slice none 0 0]
  rw [hwx]
  clear hwx
  have k0s := h0.below bb
  have k0d := h1.below bb
  obtain ⟨x00, x01, x02, _, _, _⟩ := three B0
  have hs0 := bb.size
  go_wp2_with fail
  refine (HY.out ▸ clean_any _ m _ most _ HM.out k0d u1 (Nat.le_trans hmost (by decide))).mono ?_
  rintro e w1 ⟨v1, rfl, k1, f1, b1⟩
  obtain ⟨A1, c1, rfl, _⟩ := id k1
  replace B0 := B0.below b1
  replace B1 := B1.below b1
  replace k0s := k0s.below b1
  replace bb := bb.trans (b1.mono bb.size)
  have hs1 := bb.size
  clear x00 x01 x02 k0d
  have HL1 : Hid (lenZ x ≤ 30000) := Nat.le_trans lx (by omega)
  have HL2 : Hid ((digs 4294967296 (lowD y)).length ≤ 30000) := Nat.le_trans (lowD_len my (by omega)) (by omega)
  have HLQ : Hid (lenQ (mkRat x (lowD y)) 30000) := lenQ_mk (lowD_pos y) HL1.out HL2.out
  by_cases hy0 : y = 0
  · have HZ : Hid ((digs 4294967296 y).length = 0) := by show _ = _; rw [hy0, digs_zero]; rfl
    have HO : Hid (digs 4294967296 (lowD y) = [1]) := by show _ = _; rw [hy0]; exact digs_one 1 (by omega) (by omega)
    have hz0 : (digs 4294967296 y).length = 0 := HZ.out
    clear hy0
    have bA := below_alloc (Nat.le_refl w1.heap.size) (.cells #[.int .u64 1] 55)
    have k1o := (own_lit1 w1 w1.heap.size 55 .u64 (show (1 : Int) = ((1 : Nat) : Int) from rfl) (Nat.le_refl _)).isS
    rw [← HO.out] at k1o
    replace k0s := k0s.below bA
    obtain ⟨x10, x11, x12, _, _, _⟩ := three (B0.below bA)
    replace B1 := B1.below bA
    replace bb := bb.trans (bA.mono bb.size)
    have hs2 := bb.size
    clear k1 f1
    go_wp2_with fail
    refine (HX.out ▸ zclean_any b _ l _ most _ HM.out k0s u0 (Nat.le_trans hmost (by decide))).mono ?_
    rintro e w2 ⟨v2, rfl, k2, f2, b2⟩
    replace B1 := B1.below b2
    replace k1o := k1o.below b2
    replace bb := bb.trans (b2.mono bb.size)
    have hs3 := bb.size
    go_wp2_with fail
    refine (rof_any _ x _ k2 HL1.out).mono ?_
    rintro e w3 ⟨v3, rfl, k3, b3⟩
    replace B1 := B1.below b3
    replace k1o := k1o.below b3
    replace bb := bb.trans (b3.mono bb.size)
    have hs4 := bb.size
    go_wp2_with fail
    refine (refOf_any _ (lowD y) _ k1o (Nat.le_trans HL2.out (by decide))).mono ?_
    rintro e w4 ⟨v4, rfl, k4, f4, b4⟩
    replace B1 := B1.below b4
    replace k3 := k3.below b4
    replace bb := bb.trans (b4.mono bb.size)
    have hs5 := bb.size
    go_wp2_with fail
    refine (rlow_any _ x _ (lowD y) _ k3 k4 (lowD_pos y) HL1.out HL2.out).mono ?_
    rintro e w5 ⟨v5, rfl, k5, f5, b5⟩
    replace B1 := B1.below b5
    replace bb := bb.trans (b5.mono bb.size)
    have hs6 := bb.size
    have hg5 := B1.lt
    go_wp2_with fail
    refine (qback_any _ _ _ k5 HLQ.out).mono ?_
    rintro e w6 ⟨v6, rfl, ⟨u6, t6, rfl, k6, d6⟩, f6, b6⟩
    obtain ⟨A6, c6, rfl, _⟩ := id k6
    obtain ⟨D6, e6, rfl, _⟩ := id d6
    replace B1 := B1.below b6
    replace bb := bb.trans (b6.mono bb.size)
    obtain ⟨y0, y1, y2, z0, z1, z2⟩ := three B1
    go_wp2
    exact bodyPost_ret (v := .agg #[.bool (ngB (mkRat x (lowD y)).num), .slice A6 (digs 4294967296 (mkRat x (lowD y)).num.natAbs).length c6, .slice D6 (digs 4294967296 (mkRat x (lowD y)).den).length e6]) (by simp [results, Tryz.results6, go_sem, y0, y1, y2]) rfl (by rw [HQ.out]; exact endQ bb (by omega) hg5 k6 d6 f6)
  · have HZ : 0 < (digs 4294967296 y).length := len_pos (by omega)
    have HO : Hid (lowD y = y) := if_neg hy0
    clear hy0
    obtain ⟨x10, x11, x12, _, _, _⟩ := three B0
    have k1o : IsS w1 .u64 (.slice A1 (digs 4294967296 y).length c1) (digs 4294967296 (lowD y)) := by rw [HO.out]; exact k1
    go_wp2_with fail
    refine (HX.out ▸ zclean_any b _ l _ most _ HM.out k0s u0 (Nat.le_trans hmost (by decide))).mono ?_
    rintro e w2 ⟨v2, rfl, k2, f2, b2⟩
    replace B1 := B1.below b2
    replace k1o := k1o.below b2
    replace bb := bb.trans (b2.mono bb.size)
    have hs3 := bb.size
    go_wp2_with fail
    refine (rof_any _ x _ k2 HL1.out).mono ?_
    rintro e w3 ⟨v3, rfl, k3, b3⟩
    replace B1 := B1.below b3
    replace k1o := k1o.below b3
    replace bb := bb.trans (b3.mono bb.size)
    have hs4 := bb.size
    go_wp2_with fail
    refine (refOf_any _ (lowD y) _ k1o (Nat.le_trans HL2.out (by decide))).mono ?_
    rintro e w4 ⟨v4, rfl, k4, f4, b4⟩
    replace B1 := B1.below b4
    replace k3 := k3.below b4
    replace bb := bb.trans (b4.mono bb.size)
    have hs5 := bb.size
    go_wp2_with fail
    refine (rlow_any _ x _ (lowD y) _ k3 k4 (lowD_pos y) HL1.out HL2.out).mono ?_
    rintro e w5 ⟨v5, rfl, k5, f5, b5⟩
    replace B1 := B1.below b5
    replace bb := bb.trans (b5.mono bb.size)
    have hs6 := bb.size
    have hg5 := B1.lt
    go_wp2_with fail
    refine (qback_any _ _ _ k5 HLQ.out).mono ?_
    rintro e w6 ⟨v6, rfl, ⟨u6, t6, rfl, k6, d6⟩, f6, b6⟩
    obtain ⟨A6, c6, rfl, _⟩ := id k6
    obtain ⟨D6, e6, rfl, _⟩ := id d6
    replace B1 := B1.below b6
    replace bb := bb.trans (b6.mono bb.size)
    obtain ⟨y0, y1, y2, z0, z1, z2⟩ := three B1
    go_wp2
    exact bodyPost_ret (v := .agg #[.bool (ngB (mkRat x (lowD y)).num), .slice A6 (digs 4294967296 (mkRat x (lowD y)).num.natAbs).length c6, .slice D6 (digs 4294967296 (mkRat x (lowD y)).den).length e6]) (by simp [results, Tryz.results6, go_sem, y0, y1, y2]) rfl (by rw [HQ.out]; exact endQ bb (by omega) hg5 k6 d6 f6)

theorem qsame_eq (a0 a1 : Value) (x y : Rat) (w : World) (h0 : IsQ w a0 x) (h1 : IsQ w a1 y) (e : x = y) : Calls Tryz.prog 8 #[a0, a1] w (RetV (.bool true) w) := by subst e; exact qsame_one a0 a1 x w h0 h1
end Go.Proofs.YtbebmknfecehnaaGreat.rat
