/- Package whole: Of, Print; the chapter's example. Condition: as each says. -/
import Derived.Test.YtcmjbkgcknimlaaDoorWhlG
namespace Go.Proofs.YtcmjbkgcknimlaaDoor.whl
open Go.RowKit Go.Proofs.YtcmjbkgcknimlaaDoor.num Go.Proofs.YtcmjbkgcknimlaaDoor.mem Go.Proofs.YtcmjbkgcknimlaaDoor.nat Go.Proofs.YtcmjbkgcknimlaaDoor.txt Go.Proofs.YtcmjbkgcknimlaaDoor.str Go.Proofs.YtcmjbkgcknimlaaDoor.flow
set_option linter.unusedVariables false

set_option maxHeartbeats 800000 in
theorem zof_any (n : Int) (w : World) (h1 : -9223372036854775808 ≤ n) (h2 : n ≤ 9223372036854775807) :
    Calls Tryd.prog 26 #[.int .i64 n] w (RetZ n w) := by
  by_cases hn : n < 0
  · have HW : Hid (IntKind.u64.wrap (-IntKind.u64.wrap n) = ((n.natAbs : Nat) : Int)) := by
      show _ = _
      rw [IntKind.wrap_u64, IntKind.wrap_u64]; omega
    have HB : Hid (IntKind.u64.wrap (-IntKind.u64.wrap n) ≤ 18446744073709551615) := by
      show _ ≤ _
      rw [HW.out]; omega
    have HZ : Hid (sg true n.natAbs = n) := by show _ = _; rw [sg_true]; omega
    go_enter Tryd.func26, Tryd.ntmps26
    go_wp2_with fail
    refine (of_any _ n.natAbs _ HW.out HB.out).mono ?_
    rintro e w1 ⟨v1, rfl, k1, f1, b1⟩
    obtain ⟨A1, C1, rfl, _⟩ := id k1
    go_wp2_with fail
    refine (signed_pd true _ n.natAbs n _ k1 f1 HZ.out).mono ?_
    rintro e w2 ⟨v2, rfl, ⟨⟨u2, rfl, k2⟩, f2⟩, b2⟩
    obtain ⟨A2, C2, rfl, _⟩ := id k2
    have B2 := ((Blk.new w 25 #[.bool false, .slice none 0 0]).below b1).below b2
    obtain ⟨c0, c1, g0, g1⟩ := B2.two
    have bb1 := (below_alloc (Nat.le_refl w.heap.size) (.cells #[.bool false, .slice none 0 0] 25)).trans (b1.mono (by simp))
    have bb2 := bb1.trans (b2.mono bb1.size)
    go_wp2
    exact bodyPost_ret (v := .agg #[.bool (ngB n), .slice A2 (digs 4294967296 n.natAbs).length C2]) (by simp [results, Tryd.results26, go_sem, c0, c1]) rfl (endZ bb2 (Nat.le_refl _) (by simp) k2 (f2 _ _ rfl) rfl)
  · have HW : Hid (n = ((n.natAbs : Nat) : Int)) := by show _ = _; omega
    have HZ : Hid (sg false n.natAbs = n) := by show _ = _; rw [sg_false]; omega
    have hn0 : 0 ≤ n := by omega
    go_enter Tryd.func26, Tryd.ntmps26
    go_wp2_with fail
    refine (of_any _ n.natAbs _ HW.out (by omega)).mono ?_
    rintro e w1 ⟨v1, rfl, k1, f1, b1⟩
    obtain ⟨A1, C1, rfl, _⟩ := id k1
    go_wp2_with fail
    refine (signed_pd false _ n.natAbs n _ k1 f1 HZ.out).mono ?_
    rintro e w2 ⟨v2, rfl, ⟨⟨u2, rfl, k2⟩, f2⟩, b2⟩
    obtain ⟨A2, C2, rfl, _⟩ := id k2
    have B2 := ((Blk.new w 25 #[.bool false, .slice none 0 0]).below b1).below b2
    obtain ⟨c0, c1, g0, g1⟩ := B2.two
    have bb1 := (below_alloc (Nat.le_refl w.heap.size) (.cells #[.bool false, .slice none 0 0] 25)).trans (b1.mono (by simp))
    have bb2 := bb1.trans (b2.mono bb1.size)
    go_wp2
    exact bodyPost_ret (v := .agg #[.bool (ngB n), .slice A2 (digs 4294967296 n.natAbs).length C2]) (by simp [results, Tryd.results26, go_sem, c0, c1]) rfl (endZ bb2 (Nat.le_refl _) (by simp) k2 (f2 _ _ rfl) rfl)

/-- A whole number as a text. -/
def txtz (z : Int) : List UInt8 := if z < 0 then 45 :: txt 10 z.natAbs else txt 10 z.natAbs
theorem concat_minus (R : ByteArray) (l : List UInt8) (h : StrIs R l) : StrIs (⟨#[45]⟩ ++ R) (45 :: l) := by
  subst h
  show (ByteArray.append ⟨#[45]⟩ R).data.toList = _
  simp [ByteArray.append]
theorem txt10_len (x : Nat) : (txt 10 x).length ≤ 10 * (digs 4294967296 x).length + 1 := by
  unfold txt
  split
  · simp
  · rw [List.length_map, List.length_reverse]
    refine Nat.le_succ_of_le (digs_len_le (by omega) ?_)
    have h1 : x < 4294967296 ^ (digs 4294967296 x).length := digs_lt_pow (by omega) x
    rw [Nat.pow_mul]
    exact Nat.lt_of_lt_of_le h1 (Nat.pow_le_pow_left (by decide) _)
set_option maxHeartbeats 800000 in
theorem zprint_any (v : Value) (z : Int) (w : World) (h : IsZ w v z) (hl : lenZ z ≤ 150) :
    Calls Tryd.prog 38 #[v] w (RetStrB (txtz z) w) := by
  obtain ⟨u, rfl, s0⟩ := id h
  obtain ⟨A, c, rfl, _⟩ := id s0
  go_enter Tryd.func38, Tryd.ntmps38
  go_wp2_with fail
  have B0 := Blk.new w 25 #[.bool (ngB z), .slice A (digs 4294967296 z.natAbs).length c]
  refine (print_any _ _ _ (s0.below (below_alloc (Nat.le_refl _) _)) hl).mono ?_
  rintro e w1 ⟨R, rfl, hR, b1⟩
  have B1 := B0.below b1
  have bb := (below_alloc (Nat.le_refl w.heap.size) (.cells #[.bool (ngB z), .slice A (digs 4294967296 z.natAbs).length c] 25)).trans (b1.mono (by simp))
  obtain ⟨x0, x1, _, _⟩ := Blk.two B1
  go_wp2_with fail
  refine (sign_any _ z (ordz z 0) _ ⟨_, rfl, s0.below bb⟩ rfl).mono ?_
  rintro e w2 ⟨rfl, b2⟩
  have bb2 := bb.trans (b2.mono bb.size)
  by_cases hz : z < 0
  · have ho : ordz z 0 < 0 := by rw [ordz_lt hz]; decide
    have hsz : ¬ 9223372036854775807 < 1 + R.size := by
      have h1 := hR.size
      have h2 := txt10_len z.natAbs
      unfold lenZ at hl
      omega
    have HT : Hid (txtz z = 45 :: txt 10 z.natAbs) := by show _ = _; unfold txtz; rw [if_pos hz]
    clear hz
    go_wp2
    go_ret
    rw [HT.out]
    exact ⟨_, rfl, concat_minus R _ hR, bb2⟩
  · have ho : ¬ ordz z 0 < 0 := by
      have := ordz_bd z 0
      rcases Int.lt_trichotomy z 0 with h | h | h
      · omega
      · rw [ordz_eq h]; omega
      · rw [ordz_gt h]; omega
    have HT : Hid (txtz z = txt 10 z.natAbs) := by show _ = _; unfold txtz; rw [if_neg hz]
    clear hz
    go_wp2
    go_ret
    rw [HT.out]
    exact ⟨_, rfl, hR, bb2⟩

theorem txtz_4 : txtz (-4) = [45, 52] := by decide +kernel
theorem txtz_1 : txtz 1 = [49] := by decide +kernel
theorem f72 : ((-7 : Int).fdiv 2) = -4 ∧ ((-7 : Int).fmod 2) = 1 := by decide
set_option maxHeartbeats 1600000 in
theorem works7_any (w : World) : Calls Tryd.prog 24 #[] w (RetV (.bool true) w) := by
  have HF1 := Lib.hid f72.1
  have HF2 := Lib.hid f72.2
  have l7 : Hid (lenZ (-7) ≤ 20000) := by show _ ≤ _; exact Nat.le_trans (len1_of_lt (by decide)) (by omega)
  have l2 : Hid (lenZ 2 ≤ 20000) := by show _ ≤ _; exact Nat.le_trans (len1_of_lt (by decide)) (by omega)
  have l4 : Hid (lenZ (-4) ≤ 150) := by show _ ≤ _; exact Nat.le_trans (len1_of_lt (by decide)) (by omega)
  have l1 : Hid (lenZ 1 ≤ 150) := by show _ ≤ _; exact Nat.le_trans (len1_of_lt (by decide)) (by omega)
  go_enter Tryd.func24, Tryd.ntmps24
  go_wp2_with fail
  refine (zof_any (-7) _ (by omega) (by omega)).mono ?_
  rintro e w1 ⟨v1, rfl, k1, f1, b1⟩
  go_wp2_with fail
  refine (zof_any 2 _ (by omega) (by omega)).mono ?_
  rintro e w2 ⟨v2, rfl, k2, f2, b2⟩
  have bb2 := b1.trans (b2.mono b1.size)
  go_wp2_with fail
  refine (zfloor_any _ (-7) _ 2 _ (k1.below b2) k2 l7.out l2.out (by omega)).mono ?_
  rintro e w3 ⟨v3, v4, rfl, k3, k4, f3, f4, b3⟩
  have bb3 := bb2.trans (b3.mono bb2.size)
  obtain ⟨p, hp⟩ : ∃ p : Int, p = (-7 : Int).fdiv 2 := ⟨_, rfl⟩
  obtain ⟨q, hq⟩ : ∃ q : Int, q = (-7 : Int).fmod 2 := ⟨_, rfl⟩
  rw [← hp] at k3
  rw [← hq] at k4
  have HP : Hid (p = -4) := hp.trans HF1.out
  have HQ : Hid (q = 1) := hq.trans HF2.out
  clear hp hq
  obtain ⟨u3, rfl, s3⟩ := id k3
  obtain ⟨A3, c3, rfl, _⟩ := id s3
  obtain ⟨u4, rfl, s4⟩ := id k4
  obtain ⟨A4, c4, rfl, _⟩ := id s4
  have ba := (below_alloc (Nat.le_refl w3.heap.size) (.cells #[.bool (ngB p), .slice A3 (digs 4294967296 p.natAbs).length c3] 25)).alloc (by simp) (.cells #[.bool (ngB q), .slice A4 (digs 4294967296 q.natAbs).length c4] 25)
  have lp : Hid (lenZ p ≤ 150) := by show _ ≤ _; rw [HP.out]; exact l4.out
  have lq : Hid (lenZ q ≤ 150) := by show _ ≤ _; rw [HQ.out]; exact l1.out
  have T4 : Hid (txtz p = [45, 52]) := by show _ = _; rw [HP.out]; exact txtz_4
  have T1 : Hid (txtz q = [49]) := by show _ = _; rw [HQ.out]; exact txtz_1
  go_wp2_with fail
  refine (zprint_any _ p _ (k3.below ba) lp.out).mono ?_
  rintro e w4 ⟨R, rfl, hR, b4⟩
  have BB0 := (Blk.new w3 25 #[.bool (ngB p), .slice A3 (digs 4294967296 p.natAbs).length c3]).alloc (.cells #[.bool (ngB q), .slice A4 (digs 4294967296 q.natAbs).length c4] 25)
  have BB1 := Blk.new (w3.alloc (.cells #[.bool (ngB p), .slice A3 (digs 4294967296 p.natAbs).length c3] 25)) 25 #[.bool (ngB q), .slice A4 (digs 4294967296 q.natAbs).length c4]
  have e9 : (w3.alloc (.cells #[.bool (ngB p), .slice A3 (digs 4294967296 p.natAbs).length c3] 25)).heap.size = w3.heap.size + 1 := by simp
  rw [e9] at BB1
  clear e9
  obtain ⟨y0, y1, _, _⟩ := Blk.two (BB1.below b4)
  have bb4 := (bb3.trans (ba.mono bb3.size)).trans (b4.mono (bb3.trans (ba.mono bb3.size)).size)
  have k5 := (k4.below ba).below b4
  rw [T4.out] at hR
  have hcmp : R.toList = [45, 52] := by rw [Lib.toList_data]; exact hR
  have hcmp2 : (R.toList == [45, 52]) = true := by rw [hcmp]; rfl
  clear hcmp BB0 BB1
  go_wp2_with fail
  refine (zprint_any _ q _ k5 lq.out).mono ?_
  rintro e w5 ⟨R2, rfl, hR2, b5⟩
  rw [T1.out] at hR2
  have hcmp3 : R2.toList = [49] := by rw [Lib.toList_data]; exact hR2
  have hcmp4 : (R2.toList == [49]) = true := by rw [hcmp3]; rfl
  go_wp2
  go_ret
  exact ⟨rfl, bb4.trans (b5.mono bb4.size)⟩
end Go.Proofs.YtcmjbkgcknimlaaDoor.whl
