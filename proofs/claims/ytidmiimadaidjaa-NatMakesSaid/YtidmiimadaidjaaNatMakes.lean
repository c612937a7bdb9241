/- The law NatMakes returns true for any list of uint64 and any uint64: nat.Make, nat.May, nat.Small and nat.Of answer as the document's own numbers do, or refuse. No condition. -/
import Derived.Test.YtidmiimadaidjaaLawW
namespace Go.Proofs.Ytidmiimadaidjaa.natMakes
open Go.ChangeShapes Go.WideShapes Go.ChangeAt Go.RowKit Go.Proofs.Ytidmiimadaidjaa.num Go.Proofs.Ytidmiimadaidjaa.mem Go.Proofs.Ytidmiimadaidjaa.nat
set_option linter.unusedVariables false

theorem own : ownKnob Try.prog.godebug = none := by kernel_rfl
theorem laidOut : laidOutB Try.prog = true := by kernel_rfl
theorem cells_u : Try.prog.cellsOf 23 = 1 := by kernel_rfl
set_option maxHeartbeats 6400000 in
set_option maxRecDepth 100000 in
theorem walk_bad (v0 : Value) (l0 : List Nat) (a1 : Int) (w : World) (h0 : IsS w .u64 v0 l0) (u0 : Lt 18446744073709551616 l0) (wf1 : (Lit.int .u64 a1).wf = true) (hq : ¬ Lt 4294967296 (l0.take 24)) :
    Calls Try.prog 3 #[v0, .int .u64 a1] w (RetV (.bool true) w) := by
  have bn := bounds_u64 wf1
  clear wf1
  obtain ⟨n, rfl⟩ := Int.eq_ofNat_of_zero_le bn.1
  have hn1 : n < 18446744073709551616 := by omega
  have hn2 : (n : Int) ≤ 18446744073709551615 := by omega
  clear bn hn1
  obtain ⟨A, c, rfl, hc, hm, hr⟩ := h0
  have hm2 := hm
  unfold maxLen at hm2
  obtain ⟨L, hL⟩ : ∃ L, L = l0.take 24 := ⟨_, rfl⟩
  have hrL : Rd w A .u64 L := by rw [hL]; exact hr.take 24
  have uL : Lt 18446744073709551616 L := by rw [hL]; exact u0.take 24
  have hl24 : L.length ≤ 24 := by rw [hL]; simp; omega
  have hcases : (l0.length ≤ 24 ∧ Hid (l0.length = L.length)) ∨ (¬ l0.length ≤ 24 ∧ Hid (24 = L.length)) := by
    by_cases h : l0.length ≤ 24
    · left; exact ⟨h, by show _ = _; rw [hL]; simp; omega⟩
    · right; exact ⟨h, by show _ = _; rw [hL]; simp; omega⟩
  rw [← hL] at hq
  clear hL
  rcases hcases with ⟨hmin, HM⟩ | ⟨hmin, HM⟩
  all_goals
    obtain ⟨X, hX⟩ : ∃ X, X = 0 := ⟨_, rfl⟩
    have HX : Hid (digs 4294967296 X = []) := by show _ = _; rw [hX, digs_zero]
    have hbits : nbits X ≤ 63 := by rw [hX, nbits_zero]; omega
    have hlen : (digs 4294967296 X).length ≤ 0 := by rw [hX, digs_zero]; simp
    have hXb : ((X : Int) == 0) = true := by rw [hX]; rfl
    have HBad : Hid (badB L = true) := badB_true hq
    have HQ := Lib.hid hq
    clear hX hq
    have B : Below w.heap.size w w := Below.refl _ _
    go_enter Try.func3, Try.ntmps3
    go_wp2_with (first
      | (at_builtin; refine wpList_append_rd rfl (.tmp 15) (.tmp 20) rfl sl22 rfl (own_lit0 w w.heap.size _ .u64 (Nat.le_refl _)) rfl (news := L) HM.out (hrL.below (below_alloc (Nat.le_refl _) _)) (by simp only [List.length_nil]; omega) (by simp) ?_; intro va w1 hown1 hb1 hg1; obtain ⟨A1, c1, rfl, hc1, hm1, hr1⟩ := hown1.isS)
      | (at_builtin; refine wpList_append_rd rfl (.tmp 23) (.tmp 24) rfl sl22 rfl (own_lit0 w1 w1.heap.size _ .u64 (Nat.le_refl _)) rfl (news := L) rfl (hr1.below (below_alloc (Nat.le_refl _) _)) (by simp only [List.length_nil]; omega) (by simp) ?_; intro vb w2 hown2 hb2 hg2))
    have k_l0 := hown1.isS
    have k_l := hown2.isS
    rw [List.nil_append] at k_l0 k_l
    replace B := (below_alloc (Nat.le_refl w.heap.size) _).trans hb1
    have bb : Below w1.heap.size w1 w2 := (below_alloc (Nat.le_refl w1.heap.size) _).trans hb2
    replace B := B.trans (bb.mono B.size)
    replace k_l0 := k_l0.below bb
    clear hown1 hown2 hb1 hb2 hg1 hg2 hr1 hrL hr bb
    go_wp2_with fail
    refine (make_bad _ L _ k_l (by omega) uL HQ.out).mono ?_
    rintro e w3 ⟨m, rfl, k_m, f_m, b3⟩
    replace B := B.trans (b3.mono B.size)
    replace k_l0 := k_l0.below b3
    replace k_l := k_l.below b3
    obtain ⟨A3, c3, e3, hc3, hm3, hr3⟩ := id k_l0
    have E3 := Lib.hid e3
    clear e3
    go_wp2
    go_loop [7, 8] (fun vw vi => ∃ (k : Nat) (b : Bool), k ≤ L.length ∧ Hid (b = badB (L.take k)) ∧ vw = .bool b ∧ vi = .int .i64 (k : Int)) (fun _ vi => L.length - (intOf vi).toNat)
    case atStart => exact ⟨0, false, by omega, by show _ = _; simp [badB], rfl, rfl⟩
    case round =>
      obtain ⟨k, b, hk, HB, rfl, rfl⟩ := hrel
      by_cases hp : k < L.length
      · obtain ⟨ad, d, hA3, hd, hcell⟩ := hr3.at_ hp
        have hA1 : A1 = some ad := by have := E3.out; injection this with h1 _ _; rw [h1, hA3]
        subst hA1
        have hd2 : (d : Int) ≤ 18446744073709551615 := by have := uL.at hd; omega
        have HS := Lib.hid (badB_step hd)
        clear hd hA3
        rcases b with _ | _
        · by_cases hbig : (4294967296 : Int) ≤ (d : Int)
          · have HN : Hid (true = badB (L.take (k + 1))) := by show _ = _; rw [HS.out, ← HB.out]; simp; omega
            go_wp2
            go_round
            case rel => exact ⟨k + 1, true, by omega, HN, rfl, by go_num⟩
            case measure => simp [intOf]; omega
          · have HN : Hid (false = badB (L.take (k + 1))) := by show _ = _; rw [HS.out, ← HB.out]; simp; omega
            go_wp2
            go_round
            case rel => exact ⟨k + 1, false, by omega, HN, rfl, by go_num⟩
            case measure => simp [intOf]; omega
        · have HN : Hid (true = badB (L.take (k + 1))) := by show _ = _; rw [HS.out, ← HB.out]; simp
          go_wp2
          go_round
          case rel => exact ⟨k + 1, true, by omega, HN, rfl, by go_num⟩
          case measure => simp [intOf]; omega
      · obtain rfl : k = L.length := by omega
        have hbv : b = true := by have := HB.out; rw [List.take_length] at this; rw [this]; exact HBad.out
        subst hbv
        go_wp2_with fail
        refine (clean_any _ L _ 24 _ rfl k_l0 uL (by omega)).mono ?_
        rintro e w4 ⟨c, rfl, k_c, f_c, b4⟩
        replace B := B.trans (b4.mono B.size)
        replace k_l0 := k_l0.below b4
        replace k_l := k_l.below b4
        replace k_m := k_m.below b4
        have k_b := isNil w4 .u64
        rw [← HX.out] at k_b
        go_wp2_with fail
        refine (small_yes _ X _ k_b (by omega) hbits).mono ?_
        rintro e w5 ⟨rfl, rfl⟩
        go_wp2_with fail
        refine (refOf_any _ X _ k_b (by omega)).mono ?_
        rintro e w6 ⟨o, rfl, k_o, f_o, b6⟩
        replace B := B.trans (b6.mono B.size)
        replace k_l0 := k_l0.below b6
        replace k_l := k_l.below b6
        replace k_m := k_m.below b6
        replace k_c := k_c.below b6
        replace k_b := k_b.below b6
        go_wp2_with fail
        refine (refPower_any _ 63 _ rfl (by omega)).mono ?_
        rintro e w7 ⟨p, rfl, k_p, f_p, b7⟩
        replace B := B.trans (b7.mono B.size)
        replace k_l0 := k_l0.below b7
        replace k_l := k_l.below b7
        replace k_m := k_m.below b7
        replace k_c := k_c.below b7
        replace k_b := k_b.below b7
        replace k_o := k_o.below b7
        obtain ⟨t, ht⟩ : ∃ t, t = ord X (2 ^ 63) := ⟨_, rfl⟩
        have ht0 : t < 0 := by rw [ht]; exact ord_small hbits
        have HT := Lib.hid ht
        clear ht
        go_wp2_with fail
        refine (refCmp_at _ _ X (2 ^ 63) t _ k_o k_p HT.out).mono ?_
        rintro e w8 ⟨rfl, b8⟩
        replace B := B.trans (b8.mono B.size)
        replace k_l0 := k_l0.below b8
        replace k_l := k_l.below b8
        replace k_m := k_m.below b8
        replace k_c := k_c.below b8
        replace k_b := k_b.below b8
        replace k_o := k_o.below b8
        replace k_p := k_p.below b8
        go_wp2
        go_loop [13, 14] (fun vw vi => vw = .int .u64 0 ∧ vi = .int .i64 (-1)) (fun _ _ => 0)
        case atStart => exact ⟨rfl, rfl⟩
        case round =>
          obtain ⟨rfl, rfl⟩ := hrel
          go_wp2_with fail
          refine (same_one _ _ X _ (by rw [HX.out]; exact k_m) k_b).mono ?_
          rintro e w9 ⟨rfl, b9⟩
          replace B := B.trans (b9.mono B.size)
          replace k_l0 := k_l0.below b9
          replace k_l := k_l.below b9
          replace k_m := k_m.below b9
          replace k_c := k_c.below b9
          replace k_b := k_b.below b9
          replace k_o := k_o.below b9
          replace k_p := k_p.below b9
          go_wp2_with fail
          refine (may_any _ L _ k_l0 uL).mono ?_
          rintro e w10 ⟨rfl, rfl⟩
          go_wp2_with fail
          refine (refMay_any _ L _ k_l0 uL).mono ?_
          rintro e w11 ⟨rfl, rfl⟩
          have hmm : (mayB L == mayB L) = true := by simp
          go_wp2_with fail
          refine (of_any _ n _ rfl hn2).mono ?_
          rintro e w12 ⟨q, rfl, k_q, f_q, b12⟩
          replace B := B.trans (b12.mono B.size)
          replace k_l0 := k_l0.below b12
          replace k_l := k_l.below b12
          replace k_m := k_m.below b12
          replace k_c := k_c.below b12
          replace k_b := k_b.below b12
          replace k_o := k_o.below b12
          replace k_p := k_p.below b12
          go_wp2_with fail
          refine (clean_any _ [n, n / 4294967296] _ 2 _ rfl (own_lit2 w12 w12.heap.size 23 .u64 (d := n) (f := n / 4294967296) rfl (by omega) (Nat.le_refl _)).isS (Lt.cons (by omega) (Lt.cons (by omega) (Lt.nil _))) (by omega)).mono ?_
          rintro e w13 ⟨r, rfl, k_r, f_r, b13⟩
          rw [cleaned_two n (by omega)] at k_r
          replace b13 := Below.trans (below_alloc (Nat.le_refl w12.heap.size) _) (b13.mono (by simp))
          replace B := B.trans (b13.mono B.size)
          replace k_l0 := k_l0.below b13
          replace k_l := k_l.below b13
          replace k_m := k_m.below b13
          replace k_c := k_c.below b13
          replace k_b := k_b.below b13
          replace k_o := k_o.below b13
          replace k_p := k_p.below b13
          replace k_q := k_q.below b13
          go_wp2_with fail
          refine (same_one _ _ n _ k_q k_r).mono ?_
          rintro e w14 ⟨rfl, b14⟩
          replace B := B.trans (b14.mono B.size)
          replace k_l0 := k_l0.below b14
          replace k_l := k_l.below b14
          replace k_m := k_m.below b14
          replace k_c := k_c.below b14
          replace k_b := k_b.below b14
          replace k_o := k_o.below b14
          replace k_p := k_p.below b14
          replace k_q := k_q.below b14
          replace k_r := k_r.below b14
          go_wp2_with fail
          refine (works_any _).mono ?_
          rintro e w15 ⟨rfl, b15⟩
          replace B := B.trans (b15.mono B.size)
          replace k_l0 := k_l0.below b15
          replace k_l := k_l.below b15
          replace k_m := k_m.below b15
          replace k_c := k_c.below b15
          replace k_b := k_b.below b15
          replace k_o := k_o.below b15
          replace k_p := k_p.below b15
          replace k_q := k_q.below b15
          replace k_r := k_r.below b15
          go_wp2
          go_ret
          exact ⟨rfl, B⟩
set_option maxHeartbeats 6400000 in
set_option maxRecDepth 100000 in
theorem walk_small (v0 : Value) (l0 : List Nat) (a1 : Int) (w : World) (h0 : IsS w .u64 v0 l0) (u0 : Lt 18446744073709551616 l0) (wf1 : (Lit.int .u64 a1).wf = true) (hq : Lt 4294967296 (l0.take 24)) (hq2 : nbits (val 4294967296 (l0.take 24)) ≤ 63) :
    Calls Try.prog 3 #[v0, .int .u64 a1] w (RetV (.bool true) w) := by
  have bn := bounds_u64 wf1
  clear wf1
  obtain ⟨n, rfl⟩ := Int.eq_ofNat_of_zero_le bn.1
  have hn1 : n < 18446744073709551616 := by omega
  have hn2 : (n : Int) ≤ 18446744073709551615 := by omega
  clear bn hn1
  obtain ⟨A, c, rfl, hc, hm, hr⟩ := h0
  have hm2 := hm
  unfold maxLen at hm2
  obtain ⟨L, hL⟩ : ∃ L, L = l0.take 24 := ⟨_, rfl⟩
  have hrL : Rd w A .u64 L := by rw [hL]; exact hr.take 24
  have uL : Lt 18446744073709551616 L := by rw [hL]; exact u0.take 24
  have hl24 : L.length ≤ 24 := by rw [hL]; simp; omega
  have hcases : (l0.length ≤ 24 ∧ Hid (l0.length = L.length)) ∨ (¬ l0.length ≤ 24 ∧ Hid (24 = L.length)) := by
    by_cases h : l0.length ≤ 24
    · left; exact ⟨h, by show _ = _; rw [hL]; simp; omega⟩
    · right; exact ⟨h, by show _ = _; rw [hL]; simp; omega⟩
  rw [← hL] at hq hq2
  clear hL
  rcases hcases with ⟨hmin, HM⟩ | ⟨hmin, HM⟩
  all_goals
    obtain ⟨X, hX⟩ : ∃ X, X = val 4294967296 L := ⟨_, rfl⟩
    have HC : Hid (cleaned L 24 = X) := by show _ = _; rw [hX]; exact cleaned_val hq hl24
    have hsz := cleaned_sz L
    rw [HC.out] at hsz
    have hbits := hq2
    rw [← hX] at hbits
    have HX := Lib.hid hX
    have HBad : Hid (badB L = false) := badB_false hq
    have hlen0 := limb_len X
    clear hX hq2
    have B : Below w.heap.size w w := Below.refl _ _
    go_enter Try.func3, Try.ntmps3
    go_wp2_with (first
      | (at_builtin; refine wpList_append_rd rfl (.tmp 15) (.tmp 20) rfl sl22 rfl (own_lit0 w w.heap.size _ .u64 (Nat.le_refl _)) rfl (news := L) HM.out (hrL.below (below_alloc (Nat.le_refl _) _)) (by simp only [List.length_nil]; omega) (by simp) ?_; intro va w1 hown1 hb1 hg1; obtain ⟨A1, c1, rfl, hc1, hm1, hr1⟩ := hown1.isS)
      | (at_builtin; refine wpList_append_rd rfl (.tmp 23) (.tmp 24) rfl sl22 rfl (own_lit0 w1 w1.heap.size _ .u64 (Nat.le_refl _)) rfl (news := L) rfl (hr1.below (below_alloc (Nat.le_refl _) _)) (by simp only [List.length_nil]; omega) (by simp) ?_; intro vb w2 hown2 hb2 hg2))
    have k_l0 := hown1.isS
    have k_l := hown2.isS
    rw [List.nil_append] at k_l0 k_l
    replace B := (below_alloc (Nat.le_refl w.heap.size) _).trans hb1
    have bb : Below w1.heap.size w1 w2 := (below_alloc (Nat.le_refl w1.heap.size) _).trans hb2
    replace B := B.trans (bb.mono B.size)
    replace k_l0 := k_l0.below bb
    clear hown1 hown2 hb1 hb2 hg1 hg2 hr1 hrL hr bb
    go_wp2_with fail
    refine (make_ok _ L _ k_l (by omega) hq).mono ?_
    rintro e w3 ⟨m, rfl, k_m, f_m, b3⟩
    replace B := B.trans (b3.mono B.size)
    replace k_l0 := k_l0.below b3
    replace k_l := k_l.below b3
    rw [← HX.out] at k_m
    obtain ⟨A3, c3, e3, hc3, hm3, hr3⟩ := id k_l0
    have E3 := Lib.hid e3
    clear e3
    go_wp2
    go_loop [7, 8] (fun vw vi => ∃ (k : Nat) (b : Bool), k ≤ L.length ∧ Hid (b = badB (L.take k)) ∧ vw = .bool b ∧ vi = .int .i64 (k : Int)) (fun _ vi => L.length - (intOf vi).toNat)
    case atStart => exact ⟨0, false, by omega, by show _ = _; simp [badB], rfl, rfl⟩
    case round =>
      obtain ⟨k, b, hk, HB, rfl, rfl⟩ := hrel
      by_cases hp : k < L.length
      · obtain ⟨ad, d, hA3, hd, hcell⟩ := hr3.at_ hp
        have hA1 : A1 = some ad := by have := E3.out; injection this with h1 _ _; rw [h1, hA3]
        subst hA1
        have hd2 : (d : Int) ≤ 18446744073709551615 := by have := uL.at hd; omega
        have HS := Lib.hid (badB_step hd)
        clear hd hA3
        rcases b with _ | _
        · by_cases hbig : (4294967296 : Int) ≤ (d : Int)
          · have HN : Hid (true = badB (L.take (k + 1))) := by show _ = _; rw [HS.out, ← HB.out]; simp; omega
            go_wp2
            go_round
            case rel => exact ⟨k + 1, true, by omega, HN, rfl, by go_num⟩
            case measure => simp [intOf]; omega
          · have HN : Hid (false = badB (L.take (k + 1))) := by show _ = _; rw [HS.out, ← HB.out]; simp; omega
            go_wp2
            go_round
            case rel => exact ⟨k + 1, false, by omega, HN, rfl, by go_num⟩
            case measure => simp [intOf]; omega
        · have HN : Hid (true = badB (L.take (k + 1))) := by show _ = _; rw [HS.out, ← HB.out]; simp
          go_wp2
          go_round
          case rel => exact ⟨k + 1, true, by omega, HN, rfl, by go_num⟩
          case measure => simp [intOf]; omega
      · obtain rfl : k = L.length := by omega
        have hbv : b = false := by have := HB.out; rw [List.take_length] at this; rw [this]; exact HBad.out
        subst hbv
        go_wp2_with fail
        refine (clean_any _ L _ 24 _ rfl k_l0 uL (by omega)).mono ?_
        rintro e w4 ⟨c, rfl, k_c, f_c, b4⟩
        replace B := B.trans (b4.mono B.size)
        replace k_l0 := k_l0.below b4
        replace k_l := k_l.below b4
        replace k_m := k_m.below b4
        rw [HC.out] at k_c
        have k_b := k_c
        go_wp2_with fail
        refine (small_yes _ X _ k_b (by omega) hbits).mono ?_
        rintro e w5 ⟨rfl, rfl⟩
        go_wp2_with fail
        refine (refOf_any _ X _ k_b (by omega)).mono ?_
        rintro e w6 ⟨o, rfl, k_o, f_o, b6⟩
        replace B := B.trans (b6.mono B.size)
        replace k_l0 := k_l0.below b6
        replace k_l := k_l.below b6
        replace k_m := k_m.below b6
        replace k_c := k_c.below b6
        replace k_b := k_b.below b6
        go_wp2_with fail
        refine (refPower_any _ 63 _ rfl (by omega)).mono ?_
        rintro e w7 ⟨p, rfl, k_p, f_p, b7⟩
        replace B := B.trans (b7.mono B.size)
        replace k_l0 := k_l0.below b7
        replace k_l := k_l.below b7
        replace k_m := k_m.below b7
        replace k_c := k_c.below b7
        replace k_b := k_b.below b7
        replace k_o := k_o.below b7
        obtain ⟨t, ht⟩ : ∃ t, t = ord X (2 ^ 63) := ⟨_, rfl⟩
        have ht0 : t < 0 := by rw [ht]; exact ord_small hbits
        have HT := Lib.hid ht
        clear ht
        go_wp2_with fail
        refine (refCmp_at _ _ X (2 ^ 63) t _ k_o k_p HT.out).mono ?_
        rintro e w8 ⟨rfl, b8⟩
        replace B := B.trans (b8.mono B.size)
        replace k_l0 := k_l0.below b8
        replace k_l := k_l.below b8
        replace k_m := k_m.below b8
        replace k_c := k_c.below b8
        replace k_b := k_b.below b8
        replace k_o := k_o.below b8
        replace k_p := k_p.below b8
        obtain ⟨A5, c5, rfl, hc5, hm5, hr5⟩ := id k_b
        have lt5 := digs_lt (B := 4294967296) (by omega) X
        go_wp2
        go_loop [13, 14] (fun vw vi => ∃ (k y : Nat), k ≤ (digs 4294967296 X).length ∧ Hid (y = val 4294967296 ((digs 4294967296 X).drop k)) ∧ vw = .int .u64 (y : Int) ∧ vi = .int .i64 ((k : Int) - 1)) (fun _ vi => (intOf vi + 1).toNat)
        case atStart => exact ⟨(digs 4294967296 X).length, 0, by omega, by show _ = _; simp [val], rfl, rfl⟩
        case round =>
          obtain ⟨k, y, hk, HY, rfl, rfl⟩ := hrel
          by_cases hp : 0 < k
          · obtain ⟨j, rfl⟩ : ∃ j, k = j + 1 := ⟨k - 1, by omega⟩
            obtain ⟨ad, d, rfl, hd, hcell⟩ := hr5.at_ (i := j) (by omega)
            have hd1 := lt5.at hd
            have HD := Lib.hid (val_drop_step (B := 4294967296) hd)
            have hle : d + 4294967296 * y ≤ X := by
              have h1 := val_drop_le (B := 4294967296) (by omega) (digs 4294967296 X) j
              rw [HD.out, ← HY.out, val_digs (by omega)] at h1
              exact h1
            have hX63 : (X : Int) ≤ 9223372036854775807 := by have := (nbits_big (x := X)).2; omega
            have HN : Hid (y * 4294967296 + d = val 4294967296 ((digs 4294967296 X).drop j)) := by show _ = _; rw [HD.out, ← HY.out]; omega
            clear hd
            go_wp2
            go_round
            case rel => exact ⟨j, y * 4294967296 + d, by omega, HN, int_eq (by omega), by go_num⟩
            case measure => simp [intOf]
          · obtain rfl : k = 0 := by omega
            have hyX : y = X := by have := HY.out; rw [List.drop_zero, val_digs (by omega)] at this; exact this
            subst hyX
            go_wp2_with fail
            refine (same_one _ _ y _ k_m k_b).mono ?_
            rintro e w9 ⟨rfl, b9⟩
            replace B := B.trans (b9.mono B.size)
            replace k_l0 := k_l0.below b9
            replace k_l := k_l.below b9
            replace k_m := k_m.below b9
            replace k_c := k_c.below b9
            replace k_b := k_b.below b9
            replace k_o := k_o.below b9
            replace k_p := k_p.below b9
            go_wp2_with fail
            refine (may_any _ L _ k_l0 uL).mono ?_
            rintro e w10 ⟨rfl, rfl⟩
            go_wp2_with fail
            refine (refMay_any _ L _ k_l0 uL).mono ?_
            rintro e w11 ⟨rfl, rfl⟩
            have hmm : (mayB L == mayB L) = true := by simp
            go_wp2_with fail
            refine (of_any _ n _ rfl hn2).mono ?_
            rintro e w12 ⟨q, rfl, k_q, f_q, b12⟩
            replace B := B.trans (b12.mono B.size)
            replace k_l0 := k_l0.below b12
            replace k_l := k_l.below b12
            replace k_m := k_m.below b12
            replace k_c := k_c.below b12
            replace k_b := k_b.below b12
            replace k_o := k_o.below b12
            replace k_p := k_p.below b12
            go_wp2_with fail
            refine (clean_any _ [n, n / 4294967296] _ 2 _ rfl (own_lit2 w12 w12.heap.size 23 .u64 (d := n) (f := n / 4294967296) rfl (by omega) (Nat.le_refl _)).isS (Lt.cons (by omega) (Lt.cons (by omega) (Lt.nil _))) (by omega)).mono ?_
            rintro e w13 ⟨r, rfl, k_r, f_r, b13⟩
            rw [cleaned_two n (by omega)] at k_r
            replace b13 := Below.trans (below_alloc (Nat.le_refl w12.heap.size) _) (b13.mono (by simp))
            replace B := B.trans (b13.mono B.size)
            replace k_l0 := k_l0.below b13
            replace k_l := k_l.below b13
            replace k_m := k_m.below b13
            replace k_c := k_c.below b13
            replace k_b := k_b.below b13
            replace k_o := k_o.below b13
            replace k_p := k_p.below b13
            replace k_q := k_q.below b13
            go_wp2_with fail
            refine (same_one _ _ n _ k_q k_r).mono ?_
            rintro e w14 ⟨rfl, b14⟩
            replace B := B.trans (b14.mono B.size)
            replace k_l0 := k_l0.below b14
            replace k_l := k_l.below b14
            replace k_m := k_m.below b14
            replace k_c := k_c.below b14
            replace k_b := k_b.below b14
            replace k_o := k_o.below b14
            replace k_p := k_p.below b14
            replace k_q := k_q.below b14
            replace k_r := k_r.below b14
            go_wp2_with fail
            refine (works_any _).mono ?_
            rintro e w15 ⟨rfl, b15⟩
            replace B := B.trans (b15.mono B.size)
            replace k_l0 := k_l0.below b15
            replace k_l := k_l.below b15
            replace k_m := k_m.below b15
            replace k_c := k_c.below b15
            replace k_b := k_b.below b15
            replace k_o := k_o.below b15
            replace k_p := k_p.below b15
            replace k_q := k_q.below b15
            replace k_r := k_r.below b15
            go_wp2
            go_ret
            exact ⟨rfl, B⟩
set_option maxHeartbeats 6400000 in
set_option maxRecDepth 100000 in
theorem walk_big (v0 : Value) (l0 : List Nat) (a1 : Int) (w : World) (h0 : IsS w .u64 v0 l0) (u0 : Lt 18446744073709551616 l0) (wf1 : (Lit.int .u64 a1).wf = true) (hq : Lt 4294967296 (l0.take 24)) (hq2 : 63 < nbits (val 4294967296 (l0.take 24))) :
    Calls Try.prog 3 #[v0, .int .u64 a1] w (RetV (.bool true) w) := by
  have bn := bounds_u64 wf1
  clear wf1
  obtain ⟨n, rfl⟩ := Int.eq_ofNat_of_zero_le bn.1
  have hn1 : n < 18446744073709551616 := by omega
  have hn2 : (n : Int) ≤ 18446744073709551615 := by omega
  clear bn hn1
  obtain ⟨A, c, rfl, hc, hm, hr⟩ := h0
  have hm2 := hm
  unfold maxLen at hm2
  obtain ⟨L, hL⟩ : ∃ L, L = l0.take 24 := ⟨_, rfl⟩
  have hrL : Rd w A .u64 L := by rw [hL]; exact hr.take 24
  have uL : Lt 18446744073709551616 L := by rw [hL]; exact u0.take 24
  have hl24 : L.length ≤ 24 := by rw [hL]; simp; omega
  have hcases : (l0.length ≤ 24 ∧ Hid (l0.length = L.length)) ∨ (¬ l0.length ≤ 24 ∧ Hid (24 = L.length)) := by
    by_cases h : l0.length ≤ 24
    · left; exact ⟨h, by show _ = _; rw [hL]; simp; omega⟩
    · right; exact ⟨h, by show _ = _; rw [hL]; simp; omega⟩
  rw [← hL] at hq hq2
  clear hL
  rcases hcases with ⟨hmin, HM⟩ | ⟨hmin, HM⟩
  all_goals
    obtain ⟨X, hX⟩ : ∃ X, X = val 4294967296 L := ⟨_, rfl⟩
    have HC : Hid (cleaned L 24 = X) := by show _ = _; rw [hX]; exact cleaned_val hq hl24
    have hsz := cleaned_sz L
    rw [HC.out] at hsz
    have hbits := hq2
    rw [← hX] at hbits
    have HX := Lib.hid hX
    have HBad : Hid (badB L = false) := badB_false hq
    have hlen0 := limb_len X
    clear hX hq2
    have B : Below w.heap.size w w := Below.refl _ _
    go_enter Try.func3, Try.ntmps3
    go_wp2_with (first
      | (at_builtin; refine wpList_append_rd rfl (.tmp 15) (.tmp 20) rfl sl22 rfl (own_lit0 w w.heap.size _ .u64 (Nat.le_refl _)) rfl (news := L) HM.out (hrL.below (below_alloc (Nat.le_refl _) _)) (by simp only [List.length_nil]; omega) (by simp) ?_; intro va w1 hown1 hb1 hg1; obtain ⟨A1, c1, rfl, hc1, hm1, hr1⟩ := hown1.isS)
      | (at_builtin; refine wpList_append_rd rfl (.tmp 23) (.tmp 24) rfl sl22 rfl (own_lit0 w1 w1.heap.size _ .u64 (Nat.le_refl _)) rfl (news := L) rfl (hr1.below (below_alloc (Nat.le_refl _) _)) (by simp only [List.length_nil]; omega) (by simp) ?_; intro vb w2 hown2 hb2 hg2))
    have k_l0 := hown1.isS
    have k_l := hown2.isS
    rw [List.nil_append] at k_l0 k_l
    replace B := (below_alloc (Nat.le_refl w.heap.size) _).trans hb1
    have bb : Below w1.heap.size w1 w2 := (below_alloc (Nat.le_refl w1.heap.size) _).trans hb2
    replace B := B.trans (bb.mono B.size)
    replace k_l0 := k_l0.below bb
    clear hown1 hown2 hb1 hb2 hg1 hg2 hr1 hrL hr bb
    go_wp2_with fail
    refine (make_ok _ L _ k_l (by omega) hq).mono ?_
    rintro e w3 ⟨m, rfl, k_m, f_m, b3⟩
    replace B := B.trans (b3.mono B.size)
    replace k_l0 := k_l0.below b3
    replace k_l := k_l.below b3
    rw [← HX.out] at k_m
    obtain ⟨A3, c3, e3, hc3, hm3, hr3⟩ := id k_l0
    have E3 := Lib.hid e3
    clear e3
    go_wp2
    go_loop [7, 8] (fun vw vi => ∃ (k : Nat) (b : Bool), k ≤ L.length ∧ Hid (b = badB (L.take k)) ∧ vw = .bool b ∧ vi = .int .i64 (k : Int)) (fun _ vi => L.length - (intOf vi).toNat)
    case atStart => exact ⟨0, false, by omega, by show _ = _; simp [badB], rfl, rfl⟩
    case round =>
      obtain ⟨k, b, hk, HB, rfl, rfl⟩ := hrel
      by_cases hp : k < L.length
      · obtain ⟨ad, d, hA3, hd, hcell⟩ := hr3.at_ hp
        have hA1 : A1 = some ad := by have := E3.out; injection this with h1 _ _; rw [h1, hA3]
        subst hA1
        have hd2 : (d : Int) ≤ 18446744073709551615 := by have := uL.at hd; omega
        have HS := Lib.hid (badB_step hd)
        clear hd hA3
        rcases b with _ | _
        · by_cases hbig : (4294967296 : Int) ≤ (d : Int)
          · have HN : Hid (true = badB (L.take (k + 1))) := by show _ = _; rw [HS.out, ← HB.out]; simp; omega
            go_wp2
            go_round
            case rel => exact ⟨k + 1, true, by omega, HN, rfl, by go_num⟩
            case measure => simp [intOf]; omega
          · have HN : Hid (false = badB (L.take (k + 1))) := by show _ = _; rw [HS.out, ← HB.out]; simp; omega
            go_wp2
            go_round
            case rel => exact ⟨k + 1, false, by omega, HN, rfl, by go_num⟩
            case measure => simp [intOf]; omega
        · have HN : Hid (true = badB (L.take (k + 1))) := by show _ = _; rw [HS.out, ← HB.out]; simp
          go_wp2
          go_round
          case rel => exact ⟨k + 1, true, by omega, HN, rfl, by go_num⟩
          case measure => simp [intOf]; omega
      · obtain rfl : k = L.length := by omega
        have hbv : b = false := by have := HB.out; rw [List.take_length] at this; rw [this]; exact HBad.out
        subst hbv
        go_wp2_with fail
        refine (clean_any _ L _ 24 _ rfl k_l0 uL (by omega)).mono ?_
        rintro e w4 ⟨c, rfl, k_c, f_c, b4⟩
        replace B := B.trans (b4.mono B.size)
        replace k_l0 := k_l0.below b4
        replace k_l := k_l.below b4
        replace k_m := k_m.below b4
        rw [HC.out] at k_c
        have k_b := k_c
        go_wp2_with fail
        refine (small_no _ X _ k_b (by omega) hbits).mono ?_
        rintro e w5 ⟨rfl, rfl⟩
        go_wp2_with fail
        refine (refOf_any _ X _ k_b (by omega)).mono ?_
        rintro e w6 ⟨o, rfl, k_o, f_o, b6⟩
        replace B := B.trans (b6.mono B.size)
        replace k_l0 := k_l0.below b6
        replace k_l := k_l.below b6
        replace k_m := k_m.below b6
        replace k_c := k_c.below b6
        replace k_b := k_b.below b6
        go_wp2_with fail
        refine (refPower_any _ 63 _ rfl (by omega)).mono ?_
        rintro e w7 ⟨p, rfl, k_p, f_p, b7⟩
        replace B := B.trans (b7.mono B.size)
        replace k_l0 := k_l0.below b7
        replace k_l := k_l.below b7
        replace k_m := k_m.below b7
        replace k_c := k_c.below b7
        replace k_b := k_b.below b7
        replace k_o := k_o.below b7
        obtain ⟨t, ht⟩ : ∃ t, t = ord X (2 ^ 63) := ⟨_, rfl⟩
        have ht0 : ¬ t < 0 := by rw [ht]; exact ord_big hbits
        have HT := Lib.hid ht
        clear ht
        have htd : decide (t < 0) = false := by simpa using ht0
        go_wp2_with fail
        refine (refCmp_at _ _ X (2 ^ 63) t _ k_o k_p HT.out).mono ?_
        rintro e w8 ⟨rfl, b8⟩
        replace B := B.trans (b8.mono B.size)
        replace k_l0 := k_l0.below b8
        replace k_l := k_l.below b8
        replace k_m := k_m.below b8
        replace k_c := k_c.below b8
        replace k_b := k_b.below b8
        replace k_o := k_o.below b8
        replace k_p := k_p.below b8
        obtain ⟨A5, c5, rfl, hc5, hm5, hr5⟩ := id k_b
        go_wp2
        go_loop [13, 14] (fun vw vi => vw = .int .u64 0 ∧ vi = .int .i64 (((digs 4294967296 X).length : Int) - 1)) (fun _ _ => 0)
        case atStart => exact ⟨rfl, rfl⟩
        case round =>
          obtain ⟨rfl, rfl⟩ := hrel
          by_cases hp : 0 < (digs 4294967296 X).length
          all_goals
            go_wp2_with fail
            refine (same_one _ _ X _ k_m k_b).mono ?_
            rintro e w9 ⟨rfl, b9⟩
            replace B := B.trans (b9.mono B.size)
            replace k_l0 := k_l0.below b9
            replace k_l := k_l.below b9
            replace k_m := k_m.below b9
            replace k_c := k_c.below b9
            replace k_b := k_b.below b9
            replace k_o := k_o.below b9
            replace k_p := k_p.below b9
            go_wp2_with fail
            refine (may_any _ L _ k_l0 uL).mono ?_
            rintro e w10 ⟨rfl, rfl⟩
            go_wp2_with fail
            refine (refMay_any _ L _ k_l0 uL).mono ?_
            rintro e w11 ⟨rfl, rfl⟩
            have hmm : (mayB L == mayB L) = true := by simp
            go_wp2_with fail
            refine (of_any _ n _ rfl hn2).mono ?_
            rintro e w12 ⟨q, rfl, k_q, f_q, b12⟩
            replace B := B.trans (b12.mono B.size)
            replace k_l0 := k_l0.below b12
            replace k_l := k_l.below b12
            replace k_m := k_m.below b12
            replace k_c := k_c.below b12
            replace k_b := k_b.below b12
            replace k_o := k_o.below b12
            replace k_p := k_p.below b12
            go_wp2_with fail
            refine (clean_any _ [n, n / 4294967296] _ 2 _ rfl (own_lit2 w12 w12.heap.size 23 .u64 (d := n) (f := n / 4294967296) rfl (by omega) (Nat.le_refl _)).isS (Lt.cons (by omega) (Lt.cons (by omega) (Lt.nil _))) (by omega)).mono ?_
            rintro e w13 ⟨r, rfl, k_r, f_r, b13⟩
            rw [cleaned_two n (by omega)] at k_r
            replace b13 := Below.trans (below_alloc (Nat.le_refl w12.heap.size) _) (b13.mono (by simp))
            replace B := B.trans (b13.mono B.size)
            replace k_l0 := k_l0.below b13
            replace k_l := k_l.below b13
            replace k_m := k_m.below b13
            replace k_c := k_c.below b13
            replace k_b := k_b.below b13
            replace k_o := k_o.below b13
            replace k_p := k_p.below b13
            replace k_q := k_q.below b13
            go_wp2_with fail
            refine (same_one _ _ n _ k_q k_r).mono ?_
            rintro e w14 ⟨rfl, b14⟩
            replace B := B.trans (b14.mono B.size)
            replace k_l0 := k_l0.below b14
            replace k_l := k_l.below b14
            replace k_m := k_m.below b14
            replace k_c := k_c.below b14
            replace k_b := k_b.below b14
            replace k_o := k_o.below b14
            replace k_p := k_p.below b14
            replace k_q := k_q.below b14
            replace k_r := k_r.below b14
            go_wp2_with fail
            refine (works_any _).mono ?_
            rintro e w15 ⟨rfl, b15⟩
            replace B := B.trans (b15.mono B.size)
            replace k_l0 := k_l0.below b15
            replace k_l := k_l.below b15
            replace k_m := k_m.below b15
            replace k_c := k_c.below b15
            replace k_b := k_b.below b15
            replace k_o := k_o.below b15
            replace k_p := k_p.below b15
            replace k_q := k_q.below b15
            replace k_r := k_r.below b15
            go_wp2
            go_ret
            exact ⟨rfl, B⟩

set_option maxHeartbeats 6400000 in
set_option maxRecDepth 100000 in
/-- The walk: the Go text returns true; what was there is as it was. -/
theorem walk (v0 : Value) (l0 : List Nat) (a1 : Int) (w : World) (h0 : IsS w .u64 v0 l0) (u0 : Lt 18446744073709551616 l0) (wf1 : (Lit.int .u64 a1).wf = true) :
    Calls Try.prog 3 #[v0, .int .u64 a1] w (RetV (.bool true) w) := by
  by_cases hq : Lt 4294967296 (l0.take 24)
  · by_cases hq2 : nbits (val 4294967296 (l0.take 24)) ≤ 63
    · exact walk_small v0 l0 a1 w h0 u0 wf1 hq hq2
    · exact walk_big v0 l0 a1 w h0 u0 wf1 hq (by omega)
  · exact walk_bad v0 l0 a1 w h0 u0 wf1 hq

set_option maxRecDepth 100000 in
theorem lifted (os : Os) (started : os.Started) (H : Type) (enc : TypeId × Value → H) :
    ReturnsInHanded {} Try.checked os 3 .any (Rows.natMakesSpec.pre6 enc Try.prog Try.f3 Rows.natMakesRow.domain false) (Rows.natMakesSpec.post enc Try.prog Try.f3 false true false false) := by
  refine returnsInHanded_of_change (C := Try.checked) own started (by kernel_rfl) Try.func3
    (ChangeSpec.witness6 (enc := enc) (C := Try.checked) false ⟨#[], #[.slice none 0 0, .int .u64 0], []⟩ 8 (by kernel_rfl) (by kernel_rfl) (by kernel_rfl) (by kernel_rfl)) ?_
  intro W base args ds gs before hval0 hW hcnd _
  have hval : ∀ (j : Nat) t v, Try.f3.params[j]? = some t → args[j]? = some v → Value.okWide Try.prog W .any base t v := hval0
  have hW' := hW
  obtain ⟨p, q, hA0, hV, rfl, hfz, hnd⟩ := hW
  have hA : DataW.TrodAll enc Try.prog W 0 (fun _ => true) true Try.f3.params.toList args.toList ds p := hA0
  rw [Try.params3] at hA hval
  obtain ⟨v0, vs0, d0, ds0, p0, q0, hargs, rfl, rfl, t0, r0⟩ := trodAll_cons hA
  obtain ⟨v1, vs1, d1, ds1, p1, q1, rfl, rfl, rfl, t1, r1⟩ := trodAll_cons r0
  obtain ⟨rfl, rfl, rfl⟩ := trodAll_nil r1
  obtain rfl : args = #[v0, v1] := by cases args; simp_all
  obtain ⟨rfl, rfl⟩ := trodVars_none hV
  obtain ⟨l0, hs0, hu0⟩ := arg_nat Try.underlying22 Try.underlying23 cells_u (hval 0 22 v0 rfl rfl) t0
  obtain ⟨a1, rfl, hd1, hp1, wf1⟩ := open_int Try.underlying23 (hval 1 23 v1 rfl rfl) t1
  clear hA0 hval0
  simp only [List.append_nil] at hW'
  have hlt0 : ∀ x ∈ p0, x.block < W.heap.size := fun x hx => hW'.lt x (List.mem_append_left _ hx)
  have hlt1 : ∀ x ∈ p1, x.block < W.heap.size := fun x hx => hW'.lt x (List.mem_append_right _ (hx))
  refine (walk v0 l0 a1 W hs0 hu0 wf1).mono fun e W' ⟨he, hb⟩ => ?_
  subst he
  have s0 := Below.trod laidOut (by kernel_rfl) (of_decide_eq_true (by kernel_rfl)) t0 hb hlt0
  have s1 := Below.trod laidOut (by kernel_rfl) (of_decide_eq_true (by kernel_rfl)) t1 hb hlt1
  exact ⟨_, rfl, _, _, _, [] ++ [], _, [], hW', trodAll_cons_mk (shut_bool Try.underlying4 _) trodAll_mk0, trodAll_cons_mk s0 (trodAll_cons_mk s1 (trodAll_mk0)), rfl, hb.frame _, fun h => by cases h⟩

theorem over : Rows.natMakesRow.holds Try.pinned (OpenSpec.ofChange Rows.natMakesSpec) :=
  OpenClaim.holds_of_wide 3 Try.f3 rfl rfl rfl rfl rfl rfl rfl ⟨rfl, rfl, rfl, rfl, rfl⟩ rfl rfl rfl rfl rfl (by kernel_rfl) Try.func3 (by kernel_rfl)
    (of_decide_eq_true (by kernel_rfl)) (by unfold Func.isWrapper; first | (rw [if_pos (by decide +kernel)]; kernel_rfl) | (rw [if_neg (by decide +kernel)]; exact ⟨rfl, rfl⟩))
    (fun os started H enc _ => lifted os started H enc)

/-- The statement. -/
theorem proved : Rows.NatMakesSaid := over
end Go.Proofs.Ytidmiimadaidjaa.natMakes
