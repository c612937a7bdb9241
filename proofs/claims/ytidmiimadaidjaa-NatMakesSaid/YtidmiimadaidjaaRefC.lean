/- The document's own numbers of layer 2: Num, Of, Back, Power, Bits, Zeros. Condition: slices read as digits, numbers are within bounds. -/
import Derived.Test.YtidmiimadaidjaaRefB
namespace Go.Proofs.Ytidmiimadaidjaa.nat
open Go.RowKit Go.Proofs.Ytidmiimadaidjaa.num Go.Proofs.Ytidmiimadaidjaa.mem
set_option linter.unusedVariables false

set_option maxHeartbeats 400000 in
theorem refNum_any (nI : Int) (n : Nat) (w : World) (hn : nI = (n : Int)) (n1 : n ≤ 4294967296) :
    Calls Try.prog 38 #[.int .i64 nI] w (RetS .i64 (digs 10000 n) w) := by
  subst hn
  go_enter Try.func38, Try.ntmps38
  go_wp2_with fail
  refine (mulAdd_any _ 0 _ _ 1 n _ (by omega) rfl (by rw [digs_zero]; exact (own_lit0 w w.heap.size _ .i64 (Nat.le_refl _)).isS) (by simp [digs_zero]) (by omega) n1 n (by omega)).mono ?_
  rintro e w' ⟨v', rfl, hv, hf, hb⟩
  go_wp2
  go_ret
  exact ⟨_, rfl, hv, hf.mono (by simp), (below_alloc (Nat.le_refl _) _).trans (hb.mono (by simp))⟩

set_option maxHeartbeats 400000 in
theorem refOf_list (v : Value) (l : List Nat) (w : World) (h : IsS w .u64 v l) (hlt : Lt 4294967296 l) (hl : l.length ≤ 100000) :
    Calls Try.prog 13 #[v] w (RetS .i64 (digs 10000 (val 4294967296 l)) w) := by
  obtain ⟨A, cap, rfl, hcap, hcm, hr⟩ := h
  go_enter Try.func13, Try.ntmps13
  go_wp2
  go_loopw [3, 4] (fun vo vi wr => ∃ k : Nat, k ≤ l.length ∧ IsS wr .i64 vo (digs 10000 (val 4294967296 (l.drop k))) ∧ Fresh w.heap.size vo ∧ Below w.heap.size w wr ∧ vi = .int .i64 ((k : Int) - 1)) (fun _ vi _ => (intOf vi + 1).toNat)
  case atStart => exact ⟨l.length, by omega, by rw [List.drop_length, val_nil, digs_zero]; exact (own_lit0 w w.heap.size _ .i64 (Nat.le_refl _)).isS, (own_lit0 w w.heap.size 3 .i64 (Nat.le_refl _)).fresh, below_alloc (Nat.le_refl _) _, rfl⟩
  case round =>
    obtain ⟨k, hk, ho, hfo, hb, rfl⟩ := hrel
    have hsz := hb.size
    by_cases hp : 0 < k
    · obtain ⟨j, rfl⟩ : ∃ j, k = j + 1 := ⟨k - 1, by omega⟩
      obtain ⟨ad, a, rfl, ha, hcell⟩ := (hr.below hb).at_ (i := j) (by omega)
      have ha1 := hlt.at ha
      have HY := Lib.hid (val_drop_step (B := 4294967296) ha)
      clear ha
      have hl2 : (digs 10000 (val 4294967296 (l.drop (j + 1)))).length ≤ 1000000 := by
        have h1 := len10000_val (hlt.drop (j + 1))
        have h2 : (l.drop (j + 1)).length ≤ l.length := by simp
        omega
      go_wp2_with fail
      refine (mulAdd_any _ _ _ _ 4294967296 a _ (by omega) (by omega) ho hl2 (by omega) (by omega) (val 4294967296 (l.drop j)) (by have := HY.out; omega)).mono ?_
      rintro e w' ⟨v', rfl, hv, hf, hb2⟩
      go_wp2
      go_roundw
      case rel => exact ⟨j, by omega, hv, hf.mono hsz, hb.trans (hb2.mono hsz), by go_num⟩
      case measure => simp [intOf]
    · obtain rfl : k = 0 := by omega
      go_wp2
      go_ret
      exact ⟨_, rfl, by simpa using ho, hfo, hb⟩

theorem refOf_any (v : Value) (x : Nat) (w : World) (h : IsS w .u64 v (digs 4294967296 x)) (hl : (digs 4294967296 x).length ≤ 100000) :
    Calls Try.prog 13 #[v] w (RetS .i64 (digs 10000 x) w) := by
  have := refOf_list v _ w h (digs_lt (by omega) x) hl
  rwa [val_digs (by omega)] at this

set_option maxHeartbeats 800000 in
theorem refBack_any (v : Value) (x : Nat) (w : World) (h : IsS w .i64 v (digs 10000 x)) (hl : (digs 10000 x).length ≤ 100000) (hl2 : (digs 4294967296 x).length ≤ 100000) :
    Calls Try.prog 22 #[v] w (RetS .u64 (digs 4294967296 x) w) := by
  go_enter Try.func22, Try.ntmps22
  go_wp2
  go_loopw [0, 3] (fun va vo wr => ∃ (y : Nat) (o : List Nat), IsS wr .i64 va (digs 10000 y) ∧ Own wr w.heap.size 23 .u64 vo o ∧ Hid (o ++ digs 4294967296 y = digs 4294967296 x) ∧ (digs 10000 y).length ≤ 100000 ∧ Below w.heap.size w wr) (fun va _ _ => lenOf va)
  case atStart => exact ⟨x, [], h.below (below_alloc (Nat.le_refl _) _), own_lit0 w _ _ .u64 (Nat.le_refl _), rfl, hl, below_alloc (Nat.le_refl _) _⟩
  case round =>
    obtain ⟨y, o, hy, hown, HO, hly, hb⟩ := hrel
    have hsz := hb.size
    obtain ⟨A, c, rfl, hc1, hc2, hr⟩ := id hy
    have hol : o.length ≤ 100000 := by
      have := congrArg List.length HO.out
      rw [List.length_append] at this; omega
    by_cases hy0 : y = 0
    · have hz : (digs 10000 y).length ≤ 0 := by rw [hy0, digs_zero]; simp
      have HE : Hid (o = digs 4294967296 x) := by have := HO.out; rw [hy0, digs_zero, List.append_nil] at this; exact this
      clear hy0
      go_wp2
      go_ret
      exact ⟨_, rfl, by have := hown.isS; rw [HE.out] at this; exact this, hown.fresh, hb⟩
    · have hz : 0 < (digs 10000 y).length := by have := (digs_len0 (B := 10000) (by omega) (x := y)).1; omega
      obtain ⟨r, hr'⟩ : ∃ r, r = y % 4294967296 := ⟨_, rfl⟩
      have hr1 : r < 4294967296 := by omega
      have HS : Hid ((o ++ [r]) ++ digs 4294967296 (y / 4294967296) = digs 4294967296 x) := by
        have := HO.out
        rw [digs_pos (by omega) (by omega)] at this
        rw [hr', List.append_assoc]; exact this
      have hdl := digs_div_len (B := 10000) (d := 4294967296) (by omega) (by omega) (show 0 < y by omega)
      have HR := Lib.hid hr'
      clear hr'
      go_wp2_with fail
      refine (divSmall_any _ y _ 4294967296 (y / 4294967296) r _ (by omega) hy (by omega) (by omega) (by omega) rfl HR.out).mono ?_
      rintro e w' ⟨vq, rfl, hq, hfq, hb2⟩
      have hown2 := hown.below hb2
      have hsz2 := hb2.size
      have hun := hown.under
      clear hown
      go_wp2_with (at_builtin; refine wpList_append_one rfl (.tmp 15) (.tmp 18) rfl sl24 r rfl hown2 rfl (by omega) (by omega) (by omega) ?_; intro v' w1 hown1 hb1 hg1)
      have hq1 := hq.apart hfq hun hg1
      go_roundw
      case rel => exact ⟨_, _, hq1, hown1, HS, by omega, (hb.trans (hb2.mono hsz)).trans hb1⟩
      case measure =>
        obtain ⟨A', c', rfl, _⟩ := hq1
        exact hdl

set_option maxHeartbeats 400000 in
theorem refPower_any (nI : Int) (n : Nat) (w : World) (hn : nI = (n : Int)) (n1 : n ≤ 100000) :
    Calls Try.prog 14 #[.int .i64 nI] w (RetS .i64 (digs 10000 (2 ^ n)) w) := by
  subst hn
  go_enter Try.func14, Try.ntmps14
  go_wp2_with fail
  refine (refNum_any _ 1 _ (by omega) (by omega)).mono ?_
  rintro e w' ⟨v', rfl, hv, hf, hb⟩
  go_wp2
  go_loopw [0, 3] (fun vn vo wr => ∃ (k j : Nat), j + k ≤ n ∧ n ≤ j + k ∧ IsS wr .i64 vo (digs 10000 (2 ^ j)) ∧ Fresh w.heap.size vo ∧ Below w.heap.size w wr ∧ vn = .int .i64 (k : Int)) (fun vn _ _ => (intOf vn).toNat)
  case atStart => exact ⟨n, 0, by omega, by omega, hv, hf, hb, rfl⟩
  case round =>
    clear hv hf hb
    obtain ⟨k, j, hk1, hk2, ho, hfo, hb, rfl⟩ := hrel
    have hsz := hb.size
    have hlj : (digs 10000 (2 ^ j)).length ≤ 1000000 := by
      have := len10000_pow (x := 2 ^ j) (k := j + 1) (Nat.pow_lt_pow_right (by omega) (by omega)); omega
    by_cases hp : 16 ≤ k
    · obtain ⟨i, rfl⟩ : ∃ i, k = i + 16 := ⟨k - 16, by omega⟩
      go_wp2_with fail
      refine (mulAdd_any _ _ _ _ 65536 0 _ (by omega) (by omega) ho hlj (by omega) (by omega) (2 ^ (j + 16)) (by rw [Nat.pow_add]; omega)).mono ?_
      rintro e w' ⟨v', rfl, hv, hf, hb2⟩
      go_wp2
      go_roundw
      case rel => exact ⟨i, j + 16, by omega, by omega, hv, hf.mono hsz, hb.trans (hb2.mono hsz), by go_num⟩
      case measure => simp [intOf]; omega
    · go_wp2
      go_loopw [0, 3] (fun vn vo wr => ∃ (k j : Nat), j + k ≤ n ∧ n ≤ j + k ∧ IsS wr .i64 vo (digs 10000 (2 ^ j)) ∧ Fresh w.heap.size vo ∧ Below w.heap.size w wr ∧ vn = .int .i64 (k : Int)) (fun vn _ _ => (intOf vn).toNat)
      case atStart => exact ⟨k, j, hk1, hk2, ho, hfo, hb, rfl⟩
      case round =>
        clear ho hfo hb hk1 hk2 hp hlj hsz
        obtain ⟨k2, j2, hk1, hk2, ho, hfo, hb, rfl⟩ := hrel
        have hsz := hb.size
        have hlj : (digs 10000 (2 ^ j2)).length ≤ 1000000 := by
          have := len10000_pow (x := 2 ^ j2) (k := j2 + 1) (Nat.pow_lt_pow_right (by omega) (by omega)); omega
        by_cases hp : 0 < k2
        · obtain ⟨i, rfl⟩ : ∃ i, k2 = i + 1 := ⟨k2 - 1, by omega⟩
          go_wp2_with fail
          refine (mulAdd_any _ _ _ _ 2 0 _ (by omega) (by omega) ho hlj (by omega) (by omega) (2 ^ (j2 + 1)) (by rw [Nat.pow_succ]; omega)).mono ?_
          rintro e w' ⟨v', rfl, hv, hf, hb2⟩
          go_wp2
          go_roundw
          case rel => exact ⟨i, j2 + 1, by omega, by omega, hv, hf.mono hsz, hb.trans (hb2.mono hsz), by go_num⟩
          case measure => simp [intOf]
        · obtain rfl : j2 = n := by omega
          go_wp2
          go_ret
          exact ⟨_, rfl, ho, hfo, hb⟩

set_option maxHeartbeats 400000 in
theorem refBits_any (v : Value) (x : Nat) (w : World) (h : IsS w .i64 v (digs 10000 x)) (hl : (digs 10000 x).length ≤ 100000) (hbx : nbits x ≤ 10000000) :
    Calls Try.prog 30 #[v] w (RetV (.int .i64 (nbits x : Int)) w) := by
  go_enter Try.func30, Try.ntmps30
  go_wp2
  go_loopw [0, 3] (fun va vn wr => ∃ (y n : Nat), y ≤ x ∧ n + nbits y ≤ nbits x ∧ nbits x ≤ n + nbits y ∧ IsS wr .i64 va (digs 10000 y) ∧ Below w.heap.size w wr ∧ vn = .int .i64 (n : Int)) (fun _ vn _ => nbits x - (intOf vn).toNat)
  case atStart => exact ⟨x, 0, Nat.le_refl _, by omega, by omega, h, Below.refl _ _, rfl⟩
  case round =>
    obtain ⟨y, n, hyx, hn1, hn2, hy, hb, rfl⟩ := hrel
    have hsz := hb.size
    have hly := digs_len_mono (B := 10000) (by omega) hyx
    obtain ⟨A, c, rfl, hc1, hc2, hr⟩ := id hy
    by_cases hy0 : y = 0
    · have hz : (digs 10000 y).length ≤ 0 := by rw [hy0, digs_zero]; simp
      have hb0 : nbits y ≤ 0 := by rw [hy0, nbits_zero]; omega
      obtain rfl : n = nbits x := by omega
      clear hy0
      go_wp2
      go_ret
      exact ⟨rfl, hb⟩
    · have hz : 0 < (digs 10000 y).length := by have := (digs_len0 (B := 10000) (by omega) (x := y)).1; omega
      have hh := nbits_half (show 0 < y by omega)
      have HH := Lib.hid hh
      have hh1 : nbits (y / 2) + 1 ≤ nbits y := by omega
      have hh2 : nbits y ≤ nbits (y / 2) + 1 := by omega
      have hy2 : y / 2 ≤ x := by omega
      clear hh
      go_wp2_with fail
      refine (divSmall_any _ y _ 2 (y / 2) (y % 2) _ (by omega) hy (by omega) (by omega) (by omega) rfl rfl).mono ?_
      rintro e w' ⟨vq, rfl, hq, hfq, hb2⟩
      go_wp2
      go_roundw
      case rel => exact ⟨_, n + 1, hy2, by omega, by omega, hq, hb.trans (hb2.mono hsz), by go_num⟩
      case measure => simp [intOf]; omega

set_option maxHeartbeats 400000 in
theorem refZeros_any (v : Value) (x : Nat) (w : World) (h : IsS w .i64 v (digs 10000 x)) (hl : (digs 10000 x).length ≤ 100000) (hbx : nbits x ≤ 10000000) :
    Calls Try.prog 32 #[v] w (RetV (.int .i64 (tz x : Int)) w) := by
  go_enter Try.func32, Try.ntmps32
  go_wp2
  go_loopw [0, 3] (fun va vn wr => ∃ (y n : Nat), y ≤ x ∧ n + nbits y ≤ nbits x ∧ Hid (n + tz y = tz x) ∧ (0 < x → 0 < y) ∧ IsS wr .i64 va (digs 10000 y) ∧ Below w.heap.size w wr ∧ vn = .int .i64 (n : Int)) (fun _ vn _ => nbits x - (intOf vn).toNat)
  case atStart => exact ⟨x, 0, Nat.le_refl _, by omega, Nat.zero_add _, id, h, Below.refl _ _, rfl⟩
  case round =>
    obtain ⟨y, n, hyx, hn1, HZ, hpos, hy, hb, rfl⟩ := hrel
    have hsz := hb.size
    have hly := digs_len_mono (B := 10000) (by omega) hyx
    obtain ⟨A, c, rfl, hc1, hc2, hr⟩ := id hy
    by_cases hy0 : y = 0
    · have hz : (digs 10000 y).length ≤ 0 := by rw [hy0, digs_zero]; simp
      have HX : Hid (x = 0) := by
        rcases Nat.eq_zero_or_pos x with h1 | h1
        · exact h1
        · have := hpos h1; omega
      clear hy0 hpos
      go_wp2
      go_ret
      exact ⟨by rw [HX.out, tz_zero]; rfl, hb⟩
    · have hz : 0 < (digs 10000 y).length := by have := (digs_len0 (B := 10000) (by omega) (x := y)).1; omega
      have hh := nbits_half (show 0 < y by omega)
      have hh1 : nbits (y / 2) + 1 ≤ nbits y := by omega
      have hy2 : y / 2 ≤ x := by omega
      clear hh hpos
      by_cases hodd : y % 2 = 1
      · have HE : Hid (n = tz x) := by have := HZ.out; rw [tz_odd hodd] at this; exact this
        have HO := Lib.hid hodd
        clear hodd
        go_wp2_with fail
        refine (divSmall_any _ y _ 2 (y / 2) 1 _ (by omega) hy (by omega) (by omega) (by omega) rfl HO.out.symm).mono ?_
        rintro e w' ⟨vq, rfl, hq, hfq, hb2⟩
        go_wp2
        go_ret
        exact ⟨by rw [← HE.out]; rfl, hb.trans (hb2.mono hsz)⟩
      · have HE : Hid (n + 1 + tz (y / 2) = tz x) := by have := HZ.out; rw [tz_even hy0 (by omega)] at this; show _ = _; omega
        have HO : Hid (0 = y % 2) := by show _ = _; omega
        have hp2 : 0 < x → 0 < y / 2 := by intro _; omega
        have HP := Lib.hid hp2
        clear hodd hp2
        go_wp2_with fail
        refine (divSmall_any _ y _ 2 (y / 2) 0 _ (by omega) hy (by omega) (by omega) (by omega) rfl HO.out).mono ?_
        rintro e w' ⟨vq, rfl, hq, hfq, hb2⟩
        go_wp2
        go_roundw
        case rel => exact ⟨_, n + 1, hy2, by omega, HE, HP.out, hq, hb.trans (hb2.mono hsz), by go_num⟩
        case measure => simp [intOf]; omega
end Go.Proofs.Ytidmiimadaidjaa.nat
